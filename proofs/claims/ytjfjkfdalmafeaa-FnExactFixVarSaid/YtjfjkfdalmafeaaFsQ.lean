/- One variable of a formula, in the specification. -/
import Derived.Test.YtjfjkfdalmafeaaFvQ
namespace Go.Proofs.Ytjfjkfdalmafeaa.M
open Go.RowKit Abs
set_option linter.unusedSimpArgs false
set_option linter.unusedVariables false
set_option maxRecDepth 100000
set_option maxHeartbeats 4000000
theorem sp_ownF (s : List Int) (hs : s.length ≤ 1048576) : Spec2 Try.prog 90 [.sl .int fun _ => s] [] [.ref 0] [some (.row 3 .int fun _ => s)] := by
  refine fnS [0] [2] Try.func90 rfl (by decide) rfl (by decide) (by kernel_rfl) rfl (by simp [Try.ntmps90]) ?_
  cbv
  (simp only [IfP_iff, EqU_iff, Obl_iff, and_true, true_and, inI_iff, decide_eq_true_eq, decide_eq_false_iff_not]; (try simp only [natc, at2_0, at2_1]); (try dsimp only [Ty.den]); try simp only [natc] at *)
  all_goals ((repeat' (first | apply And.intro | intro _)) <;> first | omega | (simp only [List.length_append, List.length_cons, List.length_nil]; omega) | grind)
theorem sp_fix_bad (n v b : Int) (L : List (List Int)) (hL : L.length ≤ 1048576) (hm : ∀ r ∈ L, r.length ≤ 1048576) (hb : fixB n L v b = false) : Spec2 Try.prog 48 [.cells [.int fun _ => n, .sl (.sl .int) fun _ => L], .int fun _ => v, .int fun _ => b] [] [.cells [.int fun _ => 0, .ref 0], .bool fun _ => false] [some (.rows 31 3 .int fun _ => [])] := by
  have hn : formOk n L = true → 0 ≤ n ∧ n ≤ 6 := fun h => by
    unfold formOk at h
    simp only [Bool.and_eq_true, decide_eq_true_eq] at h
    exact h.1.1
  refine fnGE [7] [.cst 6 2 27, .tmp 7] Try.func48 rfl (by decide) rfl (by kernel_rfl) (.inr (.inl rfl)) (by kernel_rfl) (Nat.zero_le _) (by simp [Try.ntmps48]) ?_
  cbv
  repeat' (first | ((first | refine call_q (Spec2.agg6 (t := .pr .int (.sl (.sl .int))) (x := fun _ => (n, L)) (sp_good6 n L hL hm)) (by cbv) ?_ | refine call_pure (Spec2.agg6 (t := .pr .int (.sl (.sl .int))) (x := fun _ => (n, L)) (sp_good6 n L hL hm)) (by cbv) ?_); cbv; ((try simp only [IfP_iff, and_true, true_and, decide_eq_true_eq, decide_eq_false_iff_not]); (try simp only [natc, at2_0, at2_1]); (try dsimp only [Ty.den]); (try simp only [natc] at *); (repeat' (first | apply And.intro | intro _)))) | ((first | refine call_q (sp_good6 n L hL hm) (by cbv) ?_ | refine call_pure (sp_good6 n L hL hm) (by cbv) ?_); cbv; ((try simp only [IfP_iff, and_true, true_and, decide_eq_true_eq, decide_eq_false_iff_not]); (try simp only [natc, at2_0, at2_1]); (try dsimp only [Ty.den]); (try simp only [natc] at *); (repeat' (first | apply And.intro | intro _)))) | ((first | refine call_q (sp_in _ _ _) (by cbv) ?_ | refine call_pure (sp_in _ _ _) (by cbv) ?_); cbv; ((try simp only [IfP_iff, and_true, true_and, decide_eq_true_eq, decide_eq_false_iff_not]); (try simp only [natc, at2_0, at2_1]); (try dsimp only [Ty.den]); (try simp only [natc] at *); (repeat' (first | apply And.intro | intro _)))))
  all_goals (try (simp only [IfP_iff, EqU_iff, Obl_iff, and_true, true_and, inI_iff, decide_eq_true_eq, decide_eq_false_iff_not]; (try simp only [natc, at2_0, at2_1]); (try dsimp only [Ty.den]); try simp only [natc] at *))
  all_goals (try (refine EndG.nilR 31 3 .int [.box 1 1] [2] ?_; cbv; (simp only [IfP_iff, EqU_iff, Obl_iff, and_true, true_and, inI_iff, decide_eq_true_eq, decide_eq_false_iff_not]; (try simp only [natc, at2_0, at2_1]); (try dsimp only [Ty.den]); try simp only [natc] at *)))
  all_goals (try (exfalso; unfold fixB at hb; clear hm; grind))
  all_goals (have hf := hn (by simpa using ‹(!formOk n L) = false›); omega)
theorem sp_fix_ok (n v b : Int) (L : List (List Int)) (hL : L.length ≤ 1048576) (hm : ∀ r ∈ L, r.length ≤ 1048576) (hb : fixB n L v b = true) : Spec2 Try.prog 48 [.cells [.int fun _ => n, .sl (.sl .int) fun _ => L], .int fun _ => v, .int fun _ => b] [] [.cells [.int fun _ => n, .ref 0], .bool fun _ => true] [some (.rows 31 3 .int fun _ => L ++ [[litF v b]])] := by
  have hb2 := hb
  unfold fixB formOk at hb2
  simp only [Bool.and_eq_true, decide_eq_true_eq] at hb2
  have hrow : ∀ k : Int, 0 ≤ k → k < L.length → (getR .int L k).length ≤ 1048576 := fun k h0 h1 => hm _ (List.mem_of_getElem? (getR_get (t := .int) h0 h1))
  refine fnGE [7] [.cst 6 2 27, .tmp 7] Try.func48 rfl (by decide) rfl (by kernel_rfl) (.inr (.inl rfl)) (by kernel_rfl) (Nat.zero_le _) (by simp [Try.ntmps48]) ?_
  cbv
  repeat' (first | ((first | refine call_q (Spec2.agg6 (t := .pr .int (.sl (.sl .int))) (x := fun _ => (n, L)) (sp_good6 n L hL hm)) (by cbv) ?_ | refine call_pure (Spec2.agg6 (t := .pr .int (.sl (.sl .int))) (x := fun _ => (n, L)) (sp_good6 n L hL hm)) (by cbv) ?_); cbv; ((try simp only [IfP_iff, and_true, true_and, decide_eq_true_eq, decide_eq_false_iff_not]); (try simp only [natc, at2_0, at2_1]); (try dsimp only [Ty.den]); (try simp only [natc] at *); (repeat' (first | apply And.intro | intro _)))) | ((first | refine call_q (sp_good6 n L hL hm) (by cbv) ?_ | refine call_pure (sp_good6 n L hL hm) (by cbv) ?_); cbv; ((try simp only [IfP_iff, and_true, true_and, decide_eq_true_eq, decide_eq_false_iff_not]); (try simp only [natc, at2_0, at2_1]); (try dsimp only [Ty.den]); (try simp only [natc] at *); (repeat' (first | apply And.intro | intro _)))) | ((first | refine call_q (sp_in _ _ _) (by cbv) ?_ | refine call_pure (sp_in _ _ _) (by cbv) ?_); cbv; ((try simp only [IfP_iff, and_true, true_and, decide_eq_true_eq, decide_eq_false_iff_not]); (try simp only [natc, at2_0, at2_1]); (try dsimp only [Ty.den]); (try simp only [natc] at *); (repeat' (first | apply And.intro | intro _)))))
  all_goals (try (simp only [IfP_iff, EqU_iff, Obl_iff, and_true, true_and, inI_iff, decide_eq_true_eq, decide_eq_false_iff_not]; (try simp only [natc, at2_0, at2_1]); (try dsimp only [Ty.den]); try simp only [natc] at *))
  all_goals (try (exfalso; unfold fixB at hb; clear hm hb2 hrow; grind))
  · omega
  refine loopE [7] (by kernel_rfl) (fun k : Int => 0 ≤ k ∧ k ≤ L.length) (fun k => [(9, .int fun _ => k), (35, .junk), (36, .cells [.int fun _ => n, .junk])]) (fun k => [(2, some (.rows 31 3 .int fun _ => L.take k.toNat)), (3, some (.box 27 [.int fun _ => n, .ref 2]))]) (fun k => (L.length - k).toNat) (· + 1) 0 (by omega) ?_ ?_
  · cbv
    (simp only [IfP_iff, EqU_iff, Obl_iff, and_true, true_and, inI_iff, decide_eq_true_eq, decide_eq_false_iff_not]; (try simp only [natc, at2_0, at2_1]); (try dsimp only [Ty.den]); try simp only [natc] at *)
    simp
  · intro k hk
    have i1 := take_nextR (L := L) (k := k) hk.1
    have i2 := hrow k hk.1
    have i3 : (L.take k.toNat).length ≤ 1048576 := by rw [List.length_take]; omega
    have i4 : ¬ k < (L.length : Int) → L.take k.toNat = L := fun h => List.take_of_length_le (by omega)
    clear hrow
    cbv
    ((try simp only [IfP_iff, and_true, true_and, decide_eq_true_eq, decide_eq_false_iff_not]); (try simp only [natc, at2_0, at2_1]); (try dsimp only [Ty.den]); (try simp only [natc] at *); (repeat' (first | apply And.intro | intro _)))
    · refine DrawL.layersS [(7, fun S => S.new (some 51) (.ref S.H.length) (.row 3 .int fun _ => getR .int L k))] [4] (fun _ _ => none) [([false, false, false, false, true, false, false, false, false, false, false, false], [0, 2]), ([true, false, false, false, true, false, false, false, false, false, false, false], [1, 2]), ([false, false, true, false, true, false, false, false, false, false, false, false], [0, 3]), ([true, true, false, false, true, false, false, false, false, false, false, false], [2]), ([true, false, true, false, true, false, false, false, false, false, false, false], [1, 3]), ([false, false, true, true, true, false, false, false, false, false, false, false], [0, 5]), ([true, true, true, false, true, false, false, false, false, false, false, false], [3]), ([true, false, true, true, true, false, false, false, false, false, false, false], [1, 5]), ([false, false, true, true, true, true, false, false, false, false, false, false], [0, 6]), ([true, true, true, true, true, false, false, false, false, false, false, false], [5]), ([true, false, true, true, true, true, false, false, false, false, false, false], [1, 6]), ([false, false, true, true, true, true, true, false, false, false, false, false], [0, 7]), ([true, true, true, true, true, true, false, false, false, false, false, false], [6]), ([true, false, true, true, true, true, true, false, false, false, false, false], [1, 7]), ([false, false, true, true, true, true, true, true, false, false, false, false], [0, 8]), ([true, true, true, true, true, true, true, false, false, false, false, false], [7]), ([true, false, true, true, true, true, true, true, false, false, false, false], [1, 8]), ([false, false, true, true, true, true, true, true, true, false, false, false], [0]), ([true, true, true, true, true, true, true, true, false, false, false, false], [8]), ([true, false, true, true, true, true, true, true, true, false, false, false], [1]), ([true, true, true, true, true, true, true, true, true, false, false, false], [9]), ([true, true, true, true, true, true, true, true, true, true, false, false], [10]), ([true, true, true, true, true, true, true, true, true, true, true, false], [11]), ([true, true, true, true, true, true, true, true, true, true, true, true], [])] (by kernel_rfl) (by rfl) ?_
      · cbv
        (repeat' (first | apply And.intro | apply EqU.mk))
        all_goals (try trivial)
        all_goals (try (((first | refine call_q (sp_ownF (getI (.sl .int) L k) (i2 (by assumption))) (by cbv) ?_ | refine call_pure (sp_ownF (getI (.sl .int) L k) (i2 (by assumption))) (by cbv) ?_); cbv; ((try simp only [IfP_iff, and_true, true_and, decide_eq_true_eq, decide_eq_false_iff_not]); (try simp only [natc, at2_0, at2_1]); (try dsimp only [Ty.den]); (try simp only [natc] at *); (repeat' (first | apply And.intro | intro _))))))
        all_goals (try (first | trivial | rfl))
        all_goals (try (simp only [IfP_iff, EqU_iff, Obl_iff, and_true, true_and, inI_iff, decide_eq_true_eq, decide_eq_false_iff_not]; (try simp only [natc, at2_0, at2_1]); (try dsimp only [Ty.den]); try simp only [natc] at *))
        all_goals (first | omega | exact (i1 (by assumption)).symm | (rw [List.length_cons, List.length_nil]; omega))
    all_goals (try (simp only [IfP_iff, EqU_iff, Obl_iff, and_true, true_and, inI_iff, decide_eq_true_eq, decide_eq_false_iff_not]; (try simp only [natc, at2_0, at2_1]); (try dsimp only [Ty.den]); try simp only [natc] at *))
    all_goals (try omega)
    all_goals (try (rw [List.length_cons, List.length_nil]; omega))
    · refine EndG.plain [2] ?_
      cbv
      (simp only [IfP_iff, EqU_iff, Obl_iff, and_true, true_and, inI_iff, decide_eq_true_eq, decide_eq_false_iff_not]; (try simp only [natc, at2_0, at2_1]); (try dsimp only [Ty.den]); try simp only [natc] at *)
      rw [i4 (by assumption)]
      unfold litF
      rw [if_pos (by assumption)]
    · refine EndG.plain [2] ?_
      cbv
      (simp only [IfP_iff, EqU_iff, Obl_iff, and_true, true_and, inI_iff, decide_eq_true_eq, decide_eq_false_iff_not]; (try simp only [natc, at2_0, at2_1]); (try dsimp only [Ty.den]); try simp only [natc] at *)
      rw [i4 (by assumption)]
      unfold litF
      rw [if_neg (by assumption)]
end Go.Proofs.Ytjfjkfdalmafeaa.M

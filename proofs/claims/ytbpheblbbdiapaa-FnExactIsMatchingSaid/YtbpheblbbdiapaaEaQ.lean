/- CommonDiagonals, FanOf: both sides. -/
import Derived.Test.YtbpheblbbdiapaaDkQ
import Derived.Test.YtbpheblbbdiapaaQg
namespace Go.Proofs.Ytbpheblbbdiapaa.M
open Go.RowKit Abs
set_option linter.unusedSimpArgs false
set_option linter.unusedVariables false
set_option maxRecDepth 100000
set_option maxHeartbeats 4000000
def commR (n : Int) (a b : List Int) : List Int := if vv n a b = true then a.filter (hasB b) else []
theorem only_only (a b : List Int) : onlyL a (onlyL a b) = a.filter (hasB b) := by
  unfold onlyL
  refine List.filter_congr fun x hx => ?_
  rw [Bool.eq_iff_iff]
  simp only [Bool.not_eq_true', ← Bool.not_eq_true, hasB_iff, List.mem_filter]
  constructor
  · intro h
    exact Classical.byContradiction fun h2 => h ⟨hx, h2⟩
  · intro h h2
    exact h2.2 h
theorem im_common (n : Int) (a b : List Int) (ha : a.length ≤ 1048576) (hb : b.length ≤ 1048576) : Spec2 Try.prog 24 [.int fun _ => n, .sl .int fun _ => a, .sl .int fun _ => b] [] [.ref 0, .bool fun _ => vv n a b] [some (.row 3 .int fun _ => commR n a b)] := by
  by_cases hv : vv n a b = true
  case neg =>
    have h8 : commR n a b = [] := by unfold commR; rw [if_neg hv]
    rw [Bool.not_eq_true] at hv
    rw [hv, h8]
    refine fnS [1] [6, 7] Try.func24 rfl (by decide) rfl (by decide) (by kernel_rfl) rfl (by simp [Try.ntmps24]) ?_
    cbv
    repeat' (first | ((first | refine call_q (im_areTri2 n a b ha hb) (by cbv) ?_ | refine call_pure (im_areTri2 n a b ha hb) (by cbv) ?_); cbv; ((try simp only [IfP_iff, and_true, true_and, decide_eq_true_eq, decide_eq_false_iff_not]); (try simp only [natc, getI_gi, at2_0, at2_1]); (try dsimp only [Ty.den]); (try simp only [natc] at *); (repeat' (first | apply And.intro | intro _)))))
    all_goals (try (simp only [IfP_iff, EqU_iff, Obl_iff, and_true, true_and, inI_iff, decide_eq_true_eq, decide_eq_false_iff_not]; (try simp only [natc, getI_gi, at2_0, at2_1]); (try dsimp only [Ty.den]); try simp only [natc] at *))
    ((try simp only [IfP_iff, and_true, true_and, decide_eq_true_eq, decide_eq_false_iff_not]); (try simp only [natc, getI_gi, at2_0, at2_1]); (try dsimp only [Ty.den]); (try simp only [natc] at *); (repeat' (first | apply And.intro | intro _)))
    all_goals (try (exact absurd (by assumption : (!vv n a b) = false) (by rw [hv]; decide)))
    all_goals (try (simp only [IfP_iff, EqU_iff, Obl_iff, and_true, true_and, inI_iff, decide_eq_true_eq, decide_eq_false_iff_not]; (try simp only [natc, getI_gi, at2_0, at2_1]); (try dsimp only [Ty.den]); try simp only [natc] at *))
  have h8 : commR n a b = onlyL a (onlyL a b) := by unfold commR; rw [if_pos hv, only_only]
  have ho : (onlyL a b).length ≤ 1048576 := Nat.le_trans (List.length_filter_le _ _) ha
  rw [hv, h8]
  refine fnS [2] [6, 7] Try.func24 rfl (by decide) rfl (by decide) (by kernel_rfl) rfl (by simp [Try.ntmps24]) ?_
  cbv
  repeat' (first | ((first | refine call_q (im_areTri2 n a b ha hb) (by cbv) ?_ | refine call_pure (im_areTri2 n a b ha hb) (by cbv) ?_); cbv; ((try simp only [IfP_iff, and_true, true_and, decide_eq_true_eq, decide_eq_false_iff_not]); (try simp only [natc, getI_gi, at2_0, at2_1]); (try dsimp only [Ty.den]); (try simp only [natc] at *); (repeat' (first | apply And.intro | intro _)))))
  all_goals (try (simp only [IfP_iff, EqU_iff, Obl_iff, and_true, true_and, inI_iff, decide_eq_true_eq, decide_eq_false_iff_not]; (try simp only [natc, getI_gi, at2_0, at2_1]); (try dsimp only [Ty.den]); try simp only [natc] at *))
  ((try simp only [IfP_iff, and_true, true_and, decide_eq_true_eq, decide_eq_false_iff_not]); (try simp only [natc, getI_gi, at2_0, at2_1]); (try dsimp only [Ty.den]); (try simp only [natc] at *); (repeat' (first | apply And.intro | intro _)))
  all_goals (try (exact absurd (by assumption : (!vv n a b) = true) (by rw [hv]; decide)))
  all_goals (repeat' (first | ((first | refine call_q (im_miss a b ha hb) (by cbv) ?_ | refine call_pure (im_miss a b ha hb) (by cbv) ?_); cbv; ((try simp only [IfP_iff, and_true, true_and, decide_eq_true_eq, decide_eq_false_iff_not]); (try simp only [natc, getI_gi, at2_0, at2_1]); (try dsimp only [Ty.den]); (try simp only [natc] at *); (repeat' (first | apply And.intro | intro _)))) | ((first | refine call_q (im_miss a (onlyL a b) ha ho) (by cbv) ?_ | refine call_pure (im_miss a (onlyL a b) ha ho) (by cbv) ?_); cbv; ((try simp only [IfP_iff, and_true, true_and, decide_eq_true_eq, decide_eq_false_iff_not]); (try simp only [natc, getI_gi, at2_0, at2_1]); (try dsimp only [Ty.den]); (try simp only [natc] at *); (repeat' (first | apply And.intro | intro _))))))
  all_goals (try (simp only [IfP_iff, EqU_iff, Obl_iff, and_true, true_and, inI_iff, decide_eq_true_eq, decide_eq_false_iff_not]; (try simp only [natc, getI_gi, at2_0, at2_1]); (try dsimp only [Ty.den]); try simp only [natc] at *))
theorem sp_common (n : Int) (a b : List Int) (ha : a.length ≤ 1048576) (hb : b.length ≤ 1048576) : Spec2 Try.prog 23 [.int fun _ => n, .sl .int fun _ => a, .sl .int fun _ => b] [] [.ref 0, .bool fun _ => vv n a b] [some (.row 3 .int fun _ => commR n a b)] := by
  by_cases hv : vv n a b = true
  case neg =>
    have h8 : commR n a b = [] := by unfold commR; rw [if_neg hv]
    rw [Bool.not_eq_true] at hv
    rw [hv, h8]
    refine fnS [0] [6, 7] Try.func23 rfl (by decide) rfl (by decide) (by kernel_rfl) rfl (by simp [Try.ntmps23]) ?_
    cbv
    repeat' (first | ((first | refine call_q (sp_valid n a ha) (by cbv) ?_ | refine call_pure (sp_valid n a ha) (by cbv) ?_); cbv; ((try simp only [IfP_iff, and_true, true_and, decide_eq_true_eq, decide_eq_false_iff_not]); (try simp only [natc, getI_gi, at2_0, at2_1]); (try dsimp only [Ty.den]); (try simp only [natc] at *); (repeat' (first | apply And.intro | intro _)))))
    all_goals (try (simp only [IfP_iff, EqU_iff, Obl_iff, and_true, true_and, inI_iff, decide_eq_true_eq, decide_eq_false_iff_not]; (try simp only [natc, getI_gi, at2_0, at2_1]); (try dsimp only [Ty.den]); try simp only [natc] at *))
    ((try simp only [IfP_iff, and_true, true_and, decide_eq_true_eq, decide_eq_false_iff_not]); (try simp only [natc, getI_gi, at2_0, at2_1]); (try dsimp only [Ty.den]); (try simp only [natc] at *); (repeat' (first | apply And.intro | intro _)))
    all_goals (repeat' (first | ((first | refine call_q (sp_valid n b hb) (by cbv) ?_ | refine call_pure (sp_valid n b hb) (by cbv) ?_); cbv; ((try simp only [IfP_iff, and_true, true_and, decide_eq_true_eq, decide_eq_false_iff_not]); (try simp only [natc, getI_gi, at2_0, at2_1]); (try dsimp only [Ty.den]); (try simp only [natc] at *); (repeat' (first | apply And.intro | intro _))))))
    all_goals (try ((try simp only [IfP_iff, and_true, true_and, decide_eq_true_eq, decide_eq_false_iff_not]); (try simp only [natc, getI_gi, at2_0, at2_1]); (try dsimp only [Ty.den]); (try simp only [natc] at *); (repeat' (first | apply And.intro | intro _))))
    all_goals (try (exact (two_valid hv (by assumption) (by assumption)).elim))
    all_goals (try (simp only [IfP_iff, EqU_iff, Obl_iff, and_true, true_and, inI_iff, decide_eq_true_eq, decide_eq_false_iff_not]; (try simp only [natc, getI_gi, at2_0, at2_1]); (try dsimp only [Ty.den]); try simp only [natc] at *))
  have h8 : commR n a b = a.filter (hasB b) := by unfold commR; rw [if_pos hv]
  have hv2 := hv
  unfold vv at hv2
  simp only [Bool.and_eq_true] at hv2
  obtain ⟨va, vb⟩ := hv2
  rw [hv, h8]
  refine fnS [0] [6, 7] Try.func23 rfl (by decide) rfl (by decide) (by kernel_rfl) rfl (by simp [Try.ntmps23]) ?_
  cbv
  repeat' (first | ((first | refine call_q (sp_valid n a ha) (by cbv) ?_ | refine call_pure (sp_valid n a ha) (by cbv) ?_); cbv; ((try simp only [IfP_iff, and_true, true_and, decide_eq_true_eq, decide_eq_false_iff_not]); (try simp only [natc, getI_gi, at2_0, at2_1]); (try dsimp only [Ty.den]); (try simp only [natc] at *); (repeat' (first | apply And.intro | intro _)))))
  all_goals (try (simp only [IfP_iff, EqU_iff, Obl_iff, and_true, true_and, inI_iff, decide_eq_true_eq, decide_eq_false_iff_not]; (try simp only [natc, getI_gi, at2_0, at2_1]); (try dsimp only [Ty.den]); try simp only [natc] at *))
  ((try simp only [IfP_iff, and_true, true_and, decide_eq_true_eq, decide_eq_false_iff_not]); (try simp only [natc, getI_gi, at2_0, at2_1]); (try dsimp only [Ty.den]); (try simp only [natc] at *); (repeat' (first | apply And.intro | intro _)))
  all_goals (repeat' (first | ((first | refine call_q (sp_valid n b hb) (by cbv) ?_ | refine call_pure (sp_valid n b hb) (by cbv) ?_); cbv; ((try simp only [IfP_iff, and_true, true_and, decide_eq_true_eq, decide_eq_false_iff_not]); (try simp only [natc, getI_gi, at2_0, at2_1]); (try dsimp only [Ty.den]); (try simp only [natc] at *); (repeat' (first | apply And.intro | intro _))))))
  all_goals (try ((try simp only [IfP_iff, and_true, true_and, decide_eq_true_eq, decide_eq_false_iff_not]); (try simp only [natc, getI_gi, at2_0, at2_1]); (try dsimp only [Ty.den]); (try simp only [natc] at *); (repeat' (first | apply And.intro | intro _))))
  all_goals (try (exact absurd (by assumption : (!triV n a) = true) (by rw [va]; decide)))
  all_goals (try (exact absurd (by assumption : (!triV n b) = true) (by rw [vb]; decide)))
  refine loopP (by kernel_rfl) (fun k : Int => 0 ≤ k ∧ k ≤ a.length) (fun k => [(9, .int fun _ => k), (8, .ref 0), (10, .junk)]) (fun k => [(0, some (.row 3 .int fun _ => (a.take k.toNat).filter (hasB b)))]) (fun k => (a.length - k).toNat) (· + 1) 0 (by omega) ?_ ?_
  · cbv
    (simp only [IfP_iff, EqU_iff, Obl_iff, and_true, true_and, inI_iff, decide_eq_true_eq, decide_eq_false_iff_not]; (try simp only [natc, getI_gi, at2_0, at2_1]); (try dsimp only [Ty.den]); try simp only [natc] at *)
    rfl
  · intro k hk
    have h1 := fun h => filt_next (s := a) (q := hasB b) (k := k) hk.1 h
    have h2 : ((a.take k.toNat).filter (hasB b)).length ≤ 1048576 := Nat.le_trans (List.length_filter_le _ _) (by rw [List.length_take]; omega)
    have h3 : ¬ k < (a.length : Int) → a.take k.toNat = a := fun h => List.take_of_length_le (by omega)
    cbv
    ((try simp only [IfP_iff, and_true, true_and, decide_eq_true_eq, decide_eq_false_iff_not]); (try simp only [natc, getI_gi, at2_0, at2_1]); (try dsimp only [Ty.den]); (try simp only [natc] at *); (repeat' (first | apply And.intro | intro _)))
    all_goals (repeat' (first | ((first | refine call_q (sp_has b (gi a k) hb) (by cbv) ?_ | refine call_pure (sp_has b (gi a k) hb) (by cbv) ?_); cbv; ((try simp only [IfP_iff, and_true, true_and, decide_eq_true_eq, decide_eq_false_iff_not]); (try simp only [natc, getI_gi, at2_0, at2_1]); (try dsimp only [Ty.den]); (try simp only [natc] at *); (repeat' (first | apply And.intro | intro _))))))
    all_goals (try ((try simp only [IfP_iff, and_true, true_and, decide_eq_true_eq, decide_eq_false_iff_not]); (try simp only [natc, getI_gi, at2_0, at2_1]); (try dsimp only [Ty.den]); (try simp only [natc] at *); (repeat' (first | apply And.intro | intro _))))
    all_goals (try (simp only [IfP_iff, EqU_iff, Obl_iff, and_true, true_and, inI_iff, decide_eq_true_eq, decide_eq_false_iff_not]; (try simp only [natc, getI_gi, at2_0, at2_1]); (try dsimp only [Ty.den]); try simp only [natc] at *))
    all_goals ((repeat' (first | apply And.intro | intro _)) <;> first | omega | (simp only [List.length_append, List.length_cons, List.length_nil]; omega) | grind)
def fanV (n c : Int) : Bool := polyB n && (decide (0 ≤ c) && decide (c < n))
def fanL (n c : Int) : List Int := (diagL n).filter fun x => atB x c
def fanR (n c : Int) : List Int := if fanV n c = true then fanL n c else []
theorem im_fan1 (c x : Int) (x0 : 0 ≤ x) (x1 : x < 100) : Spec2 Try.prog 47 [.int fun _ => x, .ibox [.int fun _ => c] 0] [] [.bool fun _ => !atB x c] [] := by
  refine fnS [] [3] Try.func47 rfl (by decide) rfl (by decide) (by kernel_rfl) rfl (by simp [Try.ntmps47]) ?_
  cbv
  repeat' (first | ((first | refine call_q (im_isAt x c x0 x1) (by cbv) ?_ | refine call_pure (im_isAt x c x0 x1) (by cbv) ?_); cbv; ((try simp only [IfP_iff, and_true, true_and, decide_eq_true_eq, decide_eq_false_iff_not]); (try simp only [natc, getI_gi, at2_0, at2_1]); (try dsimp only [Ty.den]); (try simp only [natc] at *); (repeat' (first | apply And.intro | intro _)))))
  all_goals (try (simp only [IfP_iff, EqU_iff, Obl_iff, and_true, true_and, inI_iff, decide_eq_true_eq, decide_eq_false_iff_not]; (try simp only [natc, getI_gi, at2_0, at2_1]); (try dsimp only [Ty.den]); try simp only [natc] at *))
theorem fan_all (n c : Int) : ((diagL n).filter fun x => !(!atB x c)) = fanL n c := by
  unfold fanL
  simp
theorem im_fan (n c : Int) : Spec2 Try.prog 18 [.int fun _ => n, .int fun _ => c] [] [.ref 0, .bool fun _ => fanV n c] [some (.row 3 .int fun _ => fanR n c)] := by
  by_cases hv : fanV n c = true
  case neg =>
    have h8 : fanR n c = [] := by unfold fanR; rw [if_neg hv]
    rw [Bool.not_eq_true] at hv
    rw [hv, h8]
    have hno : (!polyB n) = false → (!(decide (0 ≤ c) && decide (c < n))) = false → False := fun h1 h2 => by
      unfold fanV at hv
      rw [show polyB n = true by simpa using h1, show (decide (0 ≤ c) && decide (c < n)) = true by simpa using h2] at hv
      cases hv
    refine fnS [1] [4, 5] Try.func18 rfl (by decide) rfl (by decide) (by kernel_rfl) rfl (by simp [Try.ntmps18]) ?_
    cbv
    repeat' (first | ((first | refine call_q (im_polygon n) (by cbv) ?_ | refine call_pure (im_polygon n) (by cbv) ?_); cbv; ((try simp only [IfP_iff, and_true, true_and, decide_eq_true_eq, decide_eq_false_iff_not]); (try simp only [natc, getI_gi, at2_0, at2_1]); (try dsimp only [Ty.den]); (try simp only [natc] at *); (repeat' (first | apply And.intro | intro _)))))
    all_goals (try (simp only [IfP_iff, EqU_iff, Obl_iff, and_true, true_and, inI_iff, decide_eq_true_eq, decide_eq_false_iff_not]; (try simp only [natc, getI_gi, at2_0, at2_1]); (try dsimp only [Ty.den]); try simp only [natc] at *))
    ((try simp only [IfP_iff, and_true, true_and, decide_eq_true_eq, decide_eq_false_iff_not]); (try simp only [natc, getI_gi, at2_0, at2_1]); (try dsimp only [Ty.den]); (try simp only [natc] at *); (repeat' (first | apply And.intro | intro _)))
    all_goals (repeat' (first | ((first | refine call_q (im_isIndex c n) (by cbv) ?_ | refine call_pure (im_isIndex c n) (by cbv) ?_); cbv; ((try simp only [IfP_iff, and_true, true_and, decide_eq_true_eq, decide_eq_false_iff_not]); (try simp only [natc, getI_gi, at2_0, at2_1]); (try dsimp only [Ty.den]); (try simp only [natc] at *); (repeat' (first | apply And.intro | intro _))))))
    all_goals (try ((try simp only [IfP_iff, and_true, true_and, decide_eq_true_eq, decide_eq_false_iff_not]); (try simp only [natc, getI_gi, at2_0, at2_1]); (try dsimp only [Ty.den]); (try simp only [natc] at *); (repeat' (first | apply And.intro | intro _))))
    all_goals (try (exact (hno (by assumption) (by assumption)).elim))
    all_goals (try (simp only [IfP_iff, EqU_iff, Obl_iff, and_true, true_and, inI_iff, decide_eq_true_eq, decide_eq_false_iff_not]; (try simp only [natc, getI_gi, at2_0, at2_1]); (try dsimp only [Ty.den]); try simp only [natc] at *))
  have h8 : fanR n c = fanL n c := by unfold fanR; rw [if_pos hv]
  have hv2 := hv
  unfold fanV at hv2
  simp only [Bool.and_eq_true] at hv2
  have hp := hv2.1
  have hc : (decide (0 ≤ c) && decide (c < n)) = true := by simpa using hv2.2
  have h9 := hp
  unfold polyB at h9
  simp only [Bool.and_eq_true, decide_eq_true_eq] at h9
  have hdl := diag_len (n := n) (by omega) h9.2
  have hd : Spec2 Try.prog 49 [.ref 0, .fnr 47 fun _ => ofCaps [.ibox [.int fun _ => c] 0]] [some (.row 3 .int fun _ => diagL n)] [.ref 1] [none, some (.row 3 .int fun _ => fanL n c)] := by
    have h := go_delF 47 (fun _ => ofCaps [.ibox [.int fun _ => c] 0]) (fun x => !atB x c) (diagL n) (by omega) fun x hx => ⟨_, rfl, fun _ => rfl, im_fan1 c x (diag_in h9.1 h9.2 x hx).1 (diag_in h9.1 h9.2 x hx).2⟩
    rw [← fan_all]
    exact h
  rw [hv, h8]
  refine fnS [2] [4, 5] Try.func18 rfl (by decide) rfl (by decide) (by kernel_rfl) rfl (by simp [Try.ntmps18]) ?_
  cbv
  repeat' (first | ((first | refine call_q (im_polygon n) (by cbv) ?_ | refine call_pure (im_polygon n) (by cbv) ?_); cbv; ((try simp only [IfP_iff, and_true, true_and, decide_eq_true_eq, decide_eq_false_iff_not]); (try simp only [natc, getI_gi, at2_0, at2_1]); (try dsimp only [Ty.den]); (try simp only [natc] at *); (repeat' (first | apply And.intro | intro _)))))
  all_goals (try (simp only [IfP_iff, EqU_iff, Obl_iff, and_true, true_and, inI_iff, decide_eq_true_eq, decide_eq_false_iff_not]; (try simp only [natc, getI_gi, at2_0, at2_1]); (try dsimp only [Ty.den]); try simp only [natc] at *))
  ((try simp only [IfP_iff, and_true, true_and, decide_eq_true_eq, decide_eq_false_iff_not]); (try simp only [natc, getI_gi, at2_0, at2_1]); (try dsimp only [Ty.den]); (try simp only [natc] at *); (repeat' (first | apply And.intro | intro _)))
  all_goals (repeat' (first | ((first | refine call_q (im_isIndex c n) (by cbv) ?_ | refine call_pure (im_isIndex c n) (by cbv) ?_); cbv; ((try simp only [IfP_iff, and_true, true_and, decide_eq_true_eq, decide_eq_false_iff_not]); (try simp only [natc, getI_gi, at2_0, at2_1]); (try dsimp only [Ty.den]); (try simp only [natc] at *); (repeat' (first | apply And.intro | intro _))))))
  all_goals (try ((try simp only [IfP_iff, and_true, true_and, decide_eq_true_eq, decide_eq_false_iff_not]); (try simp only [natc, getI_gi, at2_0, at2_1]); (try dsimp only [Ty.den]); (try simp only [natc] at *); (repeat' (first | apply And.intro | intro _))))
  all_goals (try (exact absurd (by assumption : (!polyB n) = true) (by rw [hp]; decide)))
  all_goals (try (exact absurd (by assumption : (!(decide (0 ≤ c) && decide (c < n))) = true) (by rw [hc]; decide)))
  all_goals (repeat' (first | ((first | refine call_q (im_numbers n (by omega) h9.2) (by cbv) ?_ | refine call_pure (im_numbers n (by omega) h9.2) (by cbv) ?_); cbv; ((try simp only [IfP_iff, and_true, true_and, decide_eq_true_eq, decide_eq_false_iff_not]); (try simp only [natc, getI_gi, at2_0, at2_1]); (try dsimp only [Ty.den]); (try simp only [natc] at *); (repeat' (first | apply And.intro | intro _))))))
  all_goals (try (simp only [IfP_iff, EqU_iff, Obl_iff, and_true, true_and, inI_iff, decide_eq_true_eq, decide_eq_false_iff_not]; (try simp only [natc, getI_gi, at2_0, at2_1]); (try dsimp only [Ty.den]); try simp only [natc] at *))
  refine call_own 1 hd (by cbv) (by cbv; simp only [or_true, true_or, and_true]; exact ⟨trivial, .inl rfl⟩) ?_
  cbv
  all_goals (try (simp only [IfP_iff, EqU_iff, Obl_iff, and_true, true_and, inI_iff, decide_eq_true_eq, decide_eq_false_iff_not]; (try simp only [natc, getI_gi, at2_0, at2_1]); (try dsimp only [Ty.den]); try simp only [natc] at *))
theorem sp_fan (n c : Int) : Spec2 Try.prog 17 [.int fun _ => n, .int fun _ => c] [] [.ref 0, .bool fun _ => fanV n c] [some (.row 3 .int fun _ => fanR n c)] := by
  by_cases hv : fanV n c = true
  case neg =>
    have h8 : fanR n c = [] := by unfold fanR; rw [if_neg hv]
    rw [Bool.not_eq_true] at hv
    rw [hv, h8]
    have hno : (!polyB n) = false → (!(decide (0 ≤ c) && decide (c ≤ n - 1))) = false → False := fun h1 h2 => by
      have h3 : (decide (0 ≤ c) && decide (c ≤ n - 1)) = true := by simpa using h2
      simp only [Bool.and_eq_true, decide_eq_true_eq] at h3
      unfold fanV at hv
      rw [show polyB n = true by simpa using h1, decide_eq_true h3.1, decide_eq_true (show c < n by omega)] at hv
      cases hv
    have hin : (!polyB n) = false → 3 ≤ n ∧ n ≤ 8 := fun h1 => by
      have h2 : polyB n = true := by simpa using h1
      unfold polyB at h2
      simpa using h2
    refine fnS [0] [4, 5] Try.func17 rfl (by decide) rfl (by decide) (by kernel_rfl) rfl (by simp [Try.ntmps17]) ?_
    cbv
    repeat' (first | ((first | refine call_q (sp_corners n) (by cbv) ?_ | refine call_pure (sp_corners n) (by cbv) ?_); cbv; ((try simp only [IfP_iff, and_true, true_and, decide_eq_true_eq, decide_eq_false_iff_not]); (try simp only [natc, getI_gi, at2_0, at2_1]); (try dsimp only [Ty.den]); (try simp only [natc] at *); (repeat' (first | apply And.intro | intro _)))))
    all_goals (try (simp only [IfP_iff, EqU_iff, Obl_iff, and_true, true_and, inI_iff, decide_eq_true_eq, decide_eq_false_iff_not]; (try simp only [natc, getI_gi, at2_0, at2_1]); (try dsimp only [Ty.den]); try simp only [natc] at *))
    ((try simp only [IfP_iff, and_true, true_and, decide_eq_true_eq, decide_eq_false_iff_not]); (try simp only [natc, getI_gi, at2_0, at2_1]); (try dsimp only [Ty.den]); (try simp only [natc] at *); (repeat' (first | apply And.intro | intro _)))
    all_goals (repeat' (first | ((first | refine call_q (sp_in _ _ _) (by cbv) ?_ | refine call_pure (sp_in _ _ _) (by cbv) ?_); cbv; ((try simp only [IfP_iff, and_true, true_and, decide_eq_true_eq, decide_eq_false_iff_not]); (try simp only [natc, getI_gi, at2_0, at2_1]); (try dsimp only [Ty.den]); (try simp only [natc] at *); (repeat' (first | apply And.intro | intro _))))))
    all_goals (try ((try simp only [IfP_iff, and_true, true_and, decide_eq_true_eq, decide_eq_false_iff_not]); (try simp only [natc, getI_gi, at2_0, at2_1]); (try dsimp only [Ty.den]); (try simp only [natc] at *); (repeat' (first | apply And.intro | intro _))))
    all_goals (try (exact (hno (by assumption) (by assumption)).elim))
    all_goals (try (simp only [IfP_iff, EqU_iff, Obl_iff, and_true, true_and, inI_iff, decide_eq_true_eq, decide_eq_false_iff_not]; (try simp only [natc, getI_gi, at2_0, at2_1]); (try dsimp only [Ty.den]); try simp only [natc] at *))
    all_goals ((repeat' (first | apply And.intro | intro _)) <;> first | (have q := hin (by assumption); omega))
  have h8 : fanR n c = fanL n c := by unfold fanR; rw [if_pos hv]
  have hv2 := hv
  unfold fanV at hv2
  simp only [Bool.and_eq_true, decide_eq_true_eq] at hv2
  have hp := hv2.1
  have hc : (decide (0 ≤ c) && decide (c ≤ n - 1)) = true := by simp only [Bool.and_eq_true, decide_eq_true_eq]; omega
  have h9 := hp
  unfold polyB at h9
  simp only [Bool.and_eq_true, decide_eq_true_eq] at h9
  have hdl := diag_len (n := n) (by omega) h9.2
  rw [hv, h8]
  refine fnS [0] [4, 5] Try.func17 rfl (by decide) rfl (by decide) (by kernel_rfl) rfl (by simp [Try.ntmps17]) ?_
  cbv
  repeat' (first | ((first | refine call_q (sp_corners n) (by cbv) ?_ | refine call_pure (sp_corners n) (by cbv) ?_); cbv; ((try simp only [IfP_iff, and_true, true_and, decide_eq_true_eq, decide_eq_false_iff_not]); (try simp only [natc, getI_gi, at2_0, at2_1]); (try dsimp only [Ty.den]); (try simp only [natc] at *); (repeat' (first | apply And.intro | intro _)))))
  all_goals (try (simp only [IfP_iff, EqU_iff, Obl_iff, and_true, true_and, inI_iff, decide_eq_true_eq, decide_eq_false_iff_not]; (try simp only [natc, getI_gi, at2_0, at2_1]); (try dsimp only [Ty.den]); try simp only [natc] at *))
  ((try simp only [IfP_iff, and_true, true_and, decide_eq_true_eq, decide_eq_false_iff_not]); (try simp only [natc, getI_gi, at2_0, at2_1]); (try dsimp only [Ty.den]); (try simp only [natc] at *); (repeat' (first | apply And.intro | intro _)))
  all_goals (try ((simp only [IfP_iff, EqU_iff, Obl_iff, and_true, true_and, inI_iff, decide_eq_true_eq, decide_eq_false_iff_not]; (try simp only [natc, getI_gi, at2_0, at2_1]); (try dsimp only [Ty.den]); try simp only [natc] at *); done))
  all_goals (try ((simp only [IfP_iff, EqU_iff, Obl_iff, and_true, true_and, inI_iff, decide_eq_true_eq, decide_eq_false_iff_not]; (try simp only [natc, getI_gi, at2_0, at2_1]); (try dsimp only [Ty.den]); try simp only [natc] at *); omega))
  all_goals (repeat' (first | ((first | refine call_q (sp_in _ _ _) (by cbv) ?_ | refine call_pure (sp_in _ _ _) (by cbv) ?_); cbv; ((try simp only [IfP_iff, and_true, true_and, decide_eq_true_eq, decide_eq_false_iff_not]); (try simp only [natc, getI_gi, at2_0, at2_1]); (try dsimp only [Ty.den]); (try simp only [natc] at *); (repeat' (first | apply And.intro | intro _))))))
  all_goals (try ((try simp only [IfP_iff, and_true, true_and, decide_eq_true_eq, decide_eq_false_iff_not]); (try simp only [natc, getI_gi, at2_0, at2_1]); (try dsimp only [Ty.den]); (try simp only [natc] at *); (repeat' (first | apply And.intro | intro _))))
  all_goals (try (exact absurd (by assumption : (!polyB n) = true) (by rw [hp]; decide)))
  all_goals (try (exact absurd (by assumption : (!(decide (0 ≤ c) && decide (c ≤ n - 1))) = true) (by rw [hc]; decide)))
  all_goals (try ((simp only [IfP_iff, EqU_iff, Obl_iff, and_true, true_and, inI_iff, decide_eq_true_eq, decide_eq_false_iff_not]; (try simp only [natc, getI_gi, at2_0, at2_1]); (try dsimp only [Ty.den]); try simp only [natc] at *); omega))
  all_goals (repeat' (first | ((first | refine call_q (sp_diagonals n (by omega) h9.2) (by cbv) ?_ | refine call_pure (sp_diagonals n (by omega) h9.2) (by cbv) ?_); cbv; ((try simp only [IfP_iff, and_true, true_and, decide_eq_true_eq, decide_eq_false_iff_not]); (try simp only [natc, getI_gi, at2_0, at2_1]); (try dsimp only [Ty.den]); (try simp only [natc] at *); (repeat' (first | apply And.intro | intro _))))))
  all_goals (try (simp only [IfP_iff, EqU_iff, Obl_iff, and_true, true_and, inI_iff, decide_eq_true_eq, decide_eq_false_iff_not]; (try simp only [natc, getI_gi, at2_0, at2_1]); (try dsimp only [Ty.den]); try simp only [natc] at *))
  all_goals (try (exact absurd (by assumption : (!polyB n) = true) (by rw [hp]; decide)))
  all_goals (try omega)
  refine loopP (by kernel_rfl) (fun k : Int => 0 ≤ k ∧ k ≤ (diagL n).length) (fun k => [(8, .int fun _ => k), (6, .ref 0), (9, .junk)]) (fun k => [(0, some (.row 3 .int fun _ => ((diagL n).take k.toNat).filter fun x => atB x c))]) (fun k => ((diagL n).length - k).toNat) (· + 1) 0 (by omega) ?_ ?_
  · cbv
    (simp only [IfP_iff, EqU_iff, Obl_iff, and_true, true_and, inI_iff, decide_eq_true_eq, decide_eq_false_iff_not]; (try simp only [natc, getI_gi, at2_0, at2_1]); (try dsimp only [Ty.den]); try simp only [natc] at *)
    rfl
  · intro k hk
    have h1 := fun h => filt_next (s := diagL n) (q := fun x => atB x c) (k := k) hk.1 h
    have h2 : (((diagL n).take k.toNat).filter fun x => atB x c).length ≤ 64 := Nat.le_trans (List.length_filter_le _ _) (by rw [List.length_take]; omega)
    have h3 : ¬ k < ((diagL n).length : Int) → (((diagL n).take k.toNat).filter fun x => atB x c) = fanL n c := fun h => by rw [List.take_of_length_le (by omega)]; rfl
    have h4 : k < ((diagL n).length : Int) → 0 ≤ gi (diagL n) k ∧ gi (diagL n) k < 100 := fun h => diag_in h9.1 h9.2 _ (gi_mem hk.1 h)
    have h5 : k < ((diagL n).length : Int) → inI ((gi (diagL n) k).tdiv 10) := fun h => by
      have := td_in (h4 h).1 (h4 h).2
      unfold inI; omega
    have g4 : k < ((diagL n).length : Int) → (gi (diagL n) k).tdiv 10 = c ∨ (gi (diagL n) k).tmod 10 = c → (((diagL n).take k.toNat).filter fun x => atB x c) ++ [gi (diagL n) k] = ((diagL n).take (k + 1).toNat).filter fun x => atB x c := fun h e => by
      rw [h1 h, if_pos (by unfold atB; simp [e])]
    have g5 : k < ((diagL n).length : Int) → ¬ (gi (diagL n) k).tdiv 10 = c → ¬ (gi (diagL n) k).tmod 10 = c → (((diagL n).take k.toNat).filter fun x => atB x c) = ((diagL n).take (k + 1).toNat).filter fun x => atB x c := fun h e1 e2 => by
      rw [h1 h, if_neg (by unfold atB; simp [e1, e2]), List.append_nil]
    clear h1 h4
    cbv
    ((try simp only [IfP_iff, and_true, true_and, decide_eq_true_eq, decide_eq_false_iff_not]); (try simp only [natc, getI_gi, at2_0, at2_1]); (try dsimp only [Ty.den]); (try simp only [natc] at *); (repeat' (first | apply And.intro | intro _)))
    all_goals (try (simp only [IfP_iff, EqU_iff, Obl_iff, and_true, true_and, inI_iff, decide_eq_true_eq, decide_eq_false_iff_not]; (try simp only [natc, getI_gi, at2_0, at2_1]); (try dsimp only [Ty.den]); try simp only [natc] at *))
    all_goals ((repeat' (first | apply And.intro | intro _)) <;> first | omega | (exact h3 (by assumption)) | (have q := h5 (by assumption); unfold inI at q; omega) | (exact g4 (by assumption) (.inl (by assumption))) | (exact g4 (by assumption) (.inr (by assumption))) | (exact g5 (by assumption) (by assumption) (by assumption)) | (rw [List.length_cons, List.length_nil]; omega) | trace_state)
end Go.Proofs.Ytbpheblbbdiapaa.M

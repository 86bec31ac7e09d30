/- FlipDiagonal: that there is just something else to flip to, and the program. -/
import Derived.Test.YtbpheblbbdiapaaEgQ
import Derived.Test.YtbpheblbbdiapaaOuQ
import Derived.Test.YtbpheblbbdiapaaQg
namespace Go.Proofs.Ytbpheblbbdiapaa.M
open Go.RowKit Abs
set_option linter.unusedSimpArgs false
set_option linter.unusedVariables false
set_option maxRecDepth 100000
set_option maxHeartbeats 4000000
def gen (ex : Int → Int → Bool) : List Int → Nat → List Int → List (List Int)
  | _, 0, acc => [acc]
  | [], _ + 1, _ => []
  | x :: D, m + 1, acc => (if (acc.all fun y => !ex y x) = true then gen ex D m (acc ++ [x]) else []) ++ gen ex D (m + 1) acc
theorem gen_mem {ex : Int → Int → Bool} {D l2 : List Int} (h : l2.Sublist D) : ∀ {acc : List Int}, (acc ++ l2).Pairwise (fun a b => ex a b = false) → acc ++ l2 ∈ gen ex D l2.length acc := by
  induction h with
  | slnil => intro acc _; simp [gen]
  | cons a h ih =>
    rename_i l1 D1
    intro acc hp
    cases l1 with
    | nil => simp [gen]
    | cons x l3 =>
      simp only [List.length_cons, gen]
      exact List.mem_append_right _ (ih hp)
  | cons_cons a h ih =>
    rename_i l1 D1
    intro acc hp
    simp only [List.length_cons, gen]
    have h1 : (acc.all fun y => !ex y a) = true := by
      rw [List.all_eq_true]
      intro y hy
      have := (List.pairwise_append.1 hp).2.2 y hy a (by simp)
      simp [this]
    rw [if_pos h1]
    refine List.mem_append_left _ ?_
    have := ih (acc := acc ++ [a]) (by simpa using hp)
    simpa using this
theorem sub_diag0 {n : Int} {l : List Int} (h : triV n l = true) : l.Sublist (diagL n) := by
  have hp := triV_poly h
  have e : (diagL n).filter (hasB l) = l := by
    refine asc_eq ((diag_asc hp.1 hp.2).filter _) (triV_pw h) fun x => ?_
    simp only [List.mem_filter, hasB_iff]
    exact ⟨fun h => h.2, fun hx => ⟨triV_mem h hx, hx⟩⟩
  rw [← e]
  exact List.filter_sublist
/-- What a diagonal can be exchanged for. -/
def flP (rest : List Int) (d x : Int) : Bool := !decide (x = d) && !hasB rest x && apartB rest x
def chkF (n : Int) : Bool := (gen crossB (diagL n) (n - 3).toNat []).all fun l => l.all fun d => (diagL n).any (flP (onlyL l [d]) d)
theorem chk_all : ∀ n : Fin 9, 3 ≤ n.val → chkF n.val = true := by decide +kernel
theorem triV_cross {n : Int} {l : List Int} (h : triV n l = true) : l.Pairwise (fun a b => crossB a b = false) := by
  unfold triV triB fitB at h
  simp only [Bool.and_eq_true, decide_eq_true_eq] at h
  rw [List.pairwise_iff_getElem]
  intro i j hi hj hij
  have h1 := allI_get h.2.2.1 (k := (j : Int)) (by omega) (by omega)
  unfold fitOk at h1
  have g : ∀ (k : Nat) (hk : k < l.length), gi l k = l[k] := fun k hk => by
    unfold gi
    rw [show ((k : Int)).toNat = k by omega, List.getD_eq_getElem?_getD, List.getElem?_eq_getElem hk]; rfl
  rw [hasB_iff, fit_mem, g j hj] at h1
  refine (h1.2 l[i] ?_).2
  rw [List.mem_iff_getElem]
  exact ⟨i, by rw [List.length_take]; omega, by rw [List.getElem_take]⟩
theorem flip_some {n d : Int} {l : List Int} (h : triV n l = true) (hd : d ∈ l) : ∃ x ∈ diagL n, flP (onlyL l [d]) d x = true := by
  have hp := triV_poly h
  have hl := triV_len h
  have h1 := gen_mem (ex := crossB) (sub_diag0 h) (acc := []) (by simpa using triV_cross h)
  have h2 := chk_all ⟨n.toNat, by omega⟩ (by show 3 ≤ n.toNat; omega)
  simp only at h2
  rw [show ((n.toNat : Nat) : Int) = n by omega] at h2
  unfold chkF at h2
  rw [show (n - 3).toNat = l.length by omega, List.all_eq_true] at h2
  have h3 := h2 l (by simpa using h1)
  rw [List.all_eq_true] at h3
  exact List.any_eq_true.1 (h3 d hd)
def flC (n : Int) (l : List Int) (d : Int) : List Int := (diagL n).filter (flP (onlyL l [d]) d)
theorem fl_split (x : Int) : ∀ r : List Int, (r.all fun y => !(decide (y = x) || crossB y x)) = (!hasB r x && r.all fun y => !crossB y x)
  | [] => rfl
  | y :: r => by
    have h := fl_split x r
    have e : decide (y = x) = decide (x = y) := by
      rw [Bool.eq_iff_iff, decide_eq_true_eq, decide_eq_true_eq]; exact eq_comm
    rw [List.all_cons, h, e]
    unfold hasB
    rw [List.any_cons, List.all_cons]
    cases decide (x = y) <;> cases crossB y x <;> cases (r.any fun z => decide (x = z)) <;> simp
theorem flC_eq0 (D r : List Int) (d : Int) : onlyL (fitL D crossB r) [d] = D.filter (flP r d) := by
  show (fitL D crossB r).filter (fun x => !hasB [d] x) = _
  unfold fitL
  rw [List.filter_filter]
  refine List.filter_congr fun x _ => ?_
  have e1 : hasB [d] x = decide (x = d) := by rw [Bool.eq_iff_iff, hasB_iff]; simp
  rw [e1, fl_split]
  unfold flP apartB
  rw [Bool.and_assoc]
theorem flC_eq (n : Int) (l : List Int) (d : Int) : onlyL (fitL (diagL n) crossB (onlyL l [d])) [d] = flC n l d := flC_eq0 _ _ _
theorem flC_pos {n d : Int} {l : List Int} (h : triV n l = true) (hd : d ∈ l) : 0 < (flC n l d).length := by
  obtain ⟨x, h1, h2⟩ := flip_some h hd
  exact List.length_pos_of_mem (List.mem_filter.2 ⟨h1, h2⟩)
def flV (n : Int) (l : List Int) (d : Int) : Bool := triV n l && hasB l d
def flX (n : Int) (l : List Int) (d : Int) : Int := if flV n l d = true then gi (flC n l d) 0 else 0
def flR (n : Int) (l : List Int) (d : Int) : List Int := if flV n l d = true then srt (onlyL l [d] ++ [gi (flC n l d) 0]) else []
theorem im_flip (n : Int) (l : List Int) (d : Int) (hl : l.length ≤ 1048576) : Spec2 Try.prog 32 [.int fun _ => n, .sl .int fun _ => l, .int fun _ => d] [] [.ref 0, .int fun _ => flX n l d, .bool fun _ => flV n l d] [some (.row 3 .int fun _ => flR n l d)] := by
  by_cases hv : flV n l d = true
  case neg =>
    have h8 : flR n l d = [] := by unfold flR; rw [if_neg hv]
    have h7 : flX n l d = 0 := by unfold flX; rw [if_neg hv]
    rw [Bool.not_eq_true] at hv
    rw [hv, h8, h7]
    have hno : (!triV n l) = false → (!hasB l d) = false → False := fun h1 h2 => by
      unfold flV at hv
      rw [show triV n l = true by simpa using h1, show hasB l d = true by simpa using h2] at hv
      cases hv
    refine fnS [1] [6, 7, 8] Try.func32 rfl (by decide) rfl (by decide) (by kernel_rfl) rfl (by simp [Try.ntmps32]) ?_
    cbv
    repeat' (first | ((first | refine call_q (im_areTri1L n l hl) (by cbv) ?_ | refine call_pure (im_areTri1L n l hl) (by cbv) ?_); cbv; ((try simp only [IfP_iff, and_true, true_and, decide_eq_true_eq, decide_eq_false_iff_not]); (try simp only [natc, getI_gi, at2_0, at2_1]); (try dsimp only [Ty.den]); (try simp only [natc] at *); (repeat' (first | apply And.intro | intro _)))))
    all_goals (try (simp only [IfP_iff, EqU_iff, Obl_iff, and_true, true_and, inI_iff, decide_eq_true_eq, decide_eq_false_iff_not]; (try simp only [natc, getI_gi, at2_0, at2_1]); (try dsimp only [Ty.den]); try simp only [natc] at *))
    ((try simp only [IfP_iff, and_true, true_and, decide_eq_true_eq, decide_eq_false_iff_not]); (try simp only [natc, getI_gi, at2_0, at2_1]); (try dsimp only [Ty.den]); (try simp only [natc] at *); (repeat' (first | apply And.intro | intro _)))
    all_goals (repeat' (first | ((first | refine call_q (go_contains l d hl) (by cbv) ?_ | refine call_pure (go_contains l d hl) (by cbv) ?_); cbv; ((try simp only [IfP_iff, and_true, true_and, decide_eq_true_eq, decide_eq_false_iff_not]); (try simp only [natc, getI_gi, at2_0, at2_1]); (try dsimp only [Ty.den]); (try simp only [natc] at *); (repeat' (first | apply And.intro | intro _))))))
    all_goals (try ((try simp only [IfP_iff, and_true, true_and, decide_eq_true_eq, decide_eq_false_iff_not]); (try simp only [natc, getI_gi, at2_0, at2_1]); (try dsimp only [Ty.den]); (try simp only [natc] at *); (repeat' (first | apply And.intro | intro _))))
    all_goals (try (exact (hno (by assumption) (by assumption)).elim))
    all_goals (try (simp only [IfP_iff, EqU_iff, Obl_iff, and_true, true_and, inI_iff, decide_eq_true_eq, decide_eq_false_iff_not]; (try simp only [natc, getI_gi, at2_0, at2_1]); (try dsimp only [Ty.den]); try simp only [natc] at *))
  have hv2 := hv
  unfold flV at hv2
  simp only [Bool.and_eq_true] at hv2
  obtain ⟨hv3, hd⟩ := hv2
  have h8 : flR n l d = srt (onlyL l [d] ++ [gi (flC n l d) 0]) := by unfold flR; rw [if_pos hv]
  have h7 : flX n l d = gi (flC n l d) 0 := by unfold flX; rw [if_pos hv]
  have hp := triV_poly hv3
  have hlen := triV_len hv3
  have hpos := flC_pos hv3 (hasB_iff.1 hd)
  have hd1 : [d].length ≤ 1048576 := by rw [List.length_cons, List.length_nil]; omega
  have ho : (onlyL l [d]).length ≤ 5 := Nat.le_trans (List.length_filter_le _ _) (by omega)
  have ho2 : (onlyL l [d]).length ≤ 1048576 := by omega
  have hx : ∀ x ∈ onlyL l [d], 0 ≤ x ∧ x < 100 := fun x h => triV_in hv3 ((List.mem_filter.1 h).1)
  have hdl := diag_len (n := n) (by omega) hp.2
  have hf : (fitL (diagL n) crossB (onlyL l [d])).length ≤ 1048576 := Nat.le_trans (fit_len _ _ _) (by omega)
  have hm : Spec2 Try.prog 56 [.sl .int fun _ => fitL (diagL n) crossB (onlyL l [d]), .sl .int fun _ => [d]] [] [.ref 0] [some (.row 3 .int fun _ => flC n l d)] := by
    rw [← flC_eq]
    exact im_miss _ [d] hf hd1
  have hs : (onlyL l [d] ++ [gi (flC n l d) 0]).length ≤ 1048576 := by rw [List.length_append, List.length_cons, List.length_nil]; omega
  rw [hv, h8, h7]
  refine fnS [2] [6, 7, 8] Try.func32 rfl (by decide) rfl (by decide) (by kernel_rfl) rfl (by simp [Try.ntmps32]) ?_
  cbv
  repeat' (first | ((first | refine call_q (im_areTri1L n l hl) (by cbv) ?_ | refine call_pure (im_areTri1L n l hl) (by cbv) ?_); cbv; ((try simp only [IfP_iff, and_true, true_and, decide_eq_true_eq, decide_eq_false_iff_not]); (try simp only [natc, getI_gi, at2_0, at2_1]); (try dsimp only [Ty.den]); (try simp only [natc] at *); (repeat' (first | apply And.intro | intro _)))))
  all_goals (try (simp only [IfP_iff, EqU_iff, Obl_iff, and_true, true_and, inI_iff, decide_eq_true_eq, decide_eq_false_iff_not]; (try simp only [natc, getI_gi, at2_0, at2_1]); (try dsimp only [Ty.den]); try simp only [natc] at *))
  ((try simp only [IfP_iff, and_true, true_and, decide_eq_true_eq, decide_eq_false_iff_not]); (try simp only [natc, getI_gi, at2_0, at2_1]); (try dsimp only [Ty.den]); (try simp only [natc] at *); (repeat' (first | apply And.intro | intro _)))
  all_goals (repeat' (first | ((first | refine call_q (go_contains l d hl) (by cbv) ?_ | refine call_pure (go_contains l d hl) (by cbv) ?_); cbv; ((try simp only [IfP_iff, and_true, true_and, decide_eq_true_eq, decide_eq_false_iff_not]); (try simp only [natc, getI_gi, at2_0, at2_1]); (try dsimp only [Ty.den]); (try simp only [natc] at *); (repeat' (first | apply And.intro | intro _))))))
  all_goals (try ((try simp only [IfP_iff, and_true, true_and, decide_eq_true_eq, decide_eq_false_iff_not]); (try simp only [natc, getI_gi, at2_0, at2_1]); (try dsimp only [Ty.den]); (try simp only [natc] at *); (repeat' (first | apply And.intro | intro _))))
  all_goals (try (exact absurd (by assumption : (!triV n l) = true) (by rw [hv3]; decide)))
  all_goals (try (exact absurd (by assumption : (!hasB l d) = true) (by rw [hd]; decide)))
  all_goals (repeat' (first | ((first | refine call_q (im_miss l [d] hl hd1) (by cbv) ?_ | refine call_pure (im_miss l [d] hl hd1) (by cbv) ?_); cbv; ((try simp only [IfP_iff, and_true, true_and, decide_eq_true_eq, decide_eq_false_iff_not]); (try simp only [natc, getI_gi, at2_0, at2_1]); (try dsimp only [Ty.den]); (try simp only [natc] at *); (repeat' (first | apply And.intro | intro _)))) | ((first | refine call_q (im_fitting n (onlyL l [d]) hp.1 hp.2 ho2 hx) (by cbv) ?_ | refine call_pure (im_fitting n (onlyL l [d]) hp.1 hp.2 ho2 hx) (by cbv) ?_); cbv; ((try simp only [IfP_iff, and_true, true_and, decide_eq_true_eq, decide_eq_false_iff_not]); (try simp only [natc, getI_gi, at2_0, at2_1]); (try dsimp only [Ty.den]); (try simp only [natc] at *); (repeat' (first | apply And.intro | intro _)))) | ((first | refine call_q hm (by cbv) ?_ | refine call_pure hm (by cbv) ?_); cbv; ((try simp only [IfP_iff, and_true, true_and, decide_eq_true_eq, decide_eq_false_iff_not]); (try simp only [natc, getI_gi, at2_0, at2_1]); (try dsimp only [Ty.den]); (try simp only [natc] at *); (repeat' (first | apply And.intro | intro _))))))
  all_goals (try (simp only [IfP_iff, EqU_iff, Obl_iff, and_true, true_and, inI_iff, decide_eq_true_eq, decide_eq_false_iff_not]; (try simp only [natc, getI_gi, at2_0, at2_1]); (try dsimp only [Ty.den]); try simp only [natc] at *))
  all_goals (try ((try simp only [IfP_iff, and_true, true_and, decide_eq_true_eq, decide_eq_false_iff_not]); (try simp only [natc, getI_gi, at2_0, at2_1]); (try dsimp only [Ty.den]); (try simp only [natc] at *); (repeat' (first | apply And.intro | intro _))))
  all_goals (try ((refine call_own 2 (go_sort (onlyL l [d] ++ [gi (flC n l d) 0]) hs) (by cbv) (by cbv; simp only [or_true, true_or, and_true]) ?_; cbv; ((try simp only [IfP_iff, and_true, true_and, decide_eq_true_eq, decide_eq_false_iff_not]); (try simp only [natc, getI_gi, at2_0, at2_1]); (try dsimp only [Ty.den]); (try simp only [natc] at *); (repeat' (first | apply And.intro | intro _))))))
  all_goals (try (simp only [IfP_iff, EqU_iff, Obl_iff, and_true, true_and, inI_iff, decide_eq_true_eq, decide_eq_false_iff_not]; (try simp only [natc, getI_gi, at2_0, at2_1]); (try dsimp only [Ty.den]); try simp only [natc] at *))
  all_goals ((repeat' (first | apply And.intro | intro _)) <;> first | omega | (rw [List.length_cons, List.length_nil]; omega) | trace_state)
end Go.Proofs.Ytbpheblbbdiapaa.M

/- EarsOf: both sides. -/
import Derived.Test.YtbpheblbbdiapaaEaQ
import Derived.Test.YtbpheblbbdiapaaPfQ
import Derived.Test.YtbpheblbbdiapaaQg
namespace Go.Proofs.Ytbpheblbbdiapaa.M
open Go.RowKit Abs
set_option linter.unusedSimpArgs false
set_option linter.unusedVariables false
set_option maxRecDepth 100000
set_option maxHeartbeats 4000000
theorem im_ears11 (c x : Int) (x0 : 0 ≤ x) (x1 : x < 100) : Spec2 Try.prog 60 [.int fun _ => x, .ibox [.int fun _ => c] 0] [] [.bool fun _ => atB x c] [] := by
  refine fnS [] [3] Try.func60 rfl (by decide) rfl (by decide) (by kernel_rfl) rfl (by simp [Try.ntmps60]) ?_
  cbv
  repeat' (first | ((first | refine call_q (im_isAt x c x0 x1) (by cbv) ?_ | refine call_pure (im_isAt x c x0 x1) (by cbv) ?_); cbv; ((try simp only [IfP_iff, and_true, true_and, decide_eq_true_eq, decide_eq_false_iff_not]); (try simp only [natc, getI_gi, at2_0, at2_1]); (try dsimp only [Ty.den]); (try simp only [natc] at *); (repeat' (first | apply And.intro | intro _)))))
  all_goals (try (simp only [IfP_iff, EqU_iff, Obl_iff, and_true, true_and, inI_iff, decide_eq_true_eq, decide_eq_false_iff_not]; (try simp only [natc, getI_gi, at2_0, at2_1]); (try dsimp only [Ty.den]); try simp only [natc] at *))
def someAt (l : List Int) (c : Int) : Bool := l.any fun x => atB x c
theorem im_ears1 (l : List Int) (c : Int) (hl : l.length ≤ 1048576) (hx : ∀ x ∈ l, 0 ≤ x ∧ x < 100) : Spec2 Try.prog 58 [.int fun _ => c, .ibox [.sl .int fun _ => l] 0] [] [.bool fun _ => someAt l c] [] := by
  refine fnS [] [3] Try.func58 rfl (by decide) rfl (by decide) (by kernel_rfl) rfl (by simp [Try.ntmps58]) ?_
  cbv
  repeat' (first | ((first | refine call_q (go_containsF 60 (fun _ => ofCaps [.ibox [.int fun _ => c] 0]) (fun x => atB x c) l hl fun x h => ⟨_, rfl, fun _ => rfl, im_ears11 c x (hx x h).1 (hx x h).2⟩) (by cbv) ?_ | refine call_pure (go_containsF 60 (fun _ => ofCaps [.ibox [.int fun _ => c] 0]) (fun x => atB x c) l hl fun x h => ⟨_, rfl, fun _ => rfl, im_ears11 c x (hx x h).1 (hx x h).2⟩) (by cbv) ?_); cbv; ((try simp only [IfP_iff, and_true, true_and, decide_eq_true_eq, decide_eq_false_iff_not]); (try simp only [natc, getI_gi, at2_0, at2_1]); (try dsimp only [Ty.den]); (try simp only [natc] at *); (repeat' (first | apply And.intro | intro _)))))
  all_goals (try (simp only [IfP_iff, EqU_iff, Obl_iff, and_true, true_and, inI_iff, decide_eq_true_eq, decide_eq_false_iff_not]; (try simp only [natc, getI_gi, at2_0, at2_1]); (try dsimp only [Ty.den]); try simp only [natc] at *))
  all_goals (try rfl)
theorem im_below (n : Int) (h0 : 0 ≤ n) (h1 : n ≤ 1048576) : Spec2 Try.prog 61 [.int fun _ => n] [] [.ref 0] [some (.row 3 .int fun _ => pref (fun _ => true) n.toNat)] := by
  refine fnS [0] [2] Try.func61 rfl (by decide) rfl (by decide) (by kernel_rfl) rfl (by simp [Try.ntmps61]) ?_
  cbv
  refine loopP (by kernel_rfl) (fun k : Int => 0 ≤ k ∧ k ≤ n) (fun k => [(7, .int fun _ => k), (3, .ref 0), (5, .junk), (4, .junk)]) (fun k => [(0, some (.row 3 .int fun _ => pref (fun _ => true) k.toNat))]) (fun k => (n - k).toNat) (· + 1) 0 (by omega) ?_ ?_
  · cbv
    (simp only [IfP_iff, EqU_iff, Obl_iff, and_true, true_and, inI_iff, decide_eq_true_eq, decide_eq_false_iff_not]; (try simp only [natc, getI_gi, at2_0, at2_1]); (try dsimp only [Ty.den]); try simp only [natc] at *)
    simp [pref]
  · intro k hk
    have b1 := pref_next (p := fun _ => true) hk.1
    have b2 := pref_len (p := fun _ => true) hk.1
    have b3 : ¬ k < n → pref (fun _ => true) k.toNat = pref (fun _ => true) n.toNat := fun h => by rw [show k = n by omega]
    simp only [if_true] at b1
    cbv
    ((try simp only [IfP_iff, and_true, true_and, decide_eq_true_eq, decide_eq_false_iff_not]); (try simp only [natc, getI_gi, at2_0, at2_1]); (try dsimp only [Ty.den]); (try simp only [natc] at *); (repeat' (first | apply And.intro | intro _)))
    all_goals (try (simp only [IfP_iff, EqU_iff, Obl_iff, and_true, true_and, inI_iff, decide_eq_true_eq, decide_eq_false_iff_not]; (try simp only [natc, getI_gi, at2_0, at2_1]); (try dsimp only [Ty.den]); try simp only [natc] at *))
    all_goals ((repeat' (first | apply And.intro | intro _)) <;> first | omega | (exact b3 (by assumption)) | (exact b1.symm) | (rw [List.length_cons, List.length_nil]; omega) | trace_state)
def earL (n : Int) (l : List Int) : List Int := pref (fun c => !someAt l c) n.toNat
def earR (n : Int) (l : List Int) : List Int := if triV n l = true then earL n l else []
theorem ear_below (n : Int) (l : List Int) : ((pref (fun _ => true) n.toNat).filter fun c => !someAt l c) = earL n l := by
  unfold earL pref
  rw [List.filter_filter]
  simp
theorem im_ears (n : Int) (l : List Int) (hl : l.length ≤ 1048576) : Spec2 Try.prog 26 [.int fun _ => n, .sl .int fun _ => l] [] [.ref 0, .bool fun _ => triV n l] [some (.row 3 .int fun _ => earR n l)] := by
  by_cases hv : triV n l = true
  case neg =>
    have h8 : earR n l = [] := by unfold earR; rw [if_neg hv]
    rw [Bool.not_eq_true] at hv
    rw [hv, h8]
    refine fnS [2] [4, 5] Try.func26 rfl (by decide) rfl (by decide) (by kernel_rfl) rfl (by simp [Try.ntmps26]) ?_
    cbv
    repeat' (first | ((first | refine call_q (im_areTri1L n l hl) (by cbv) ?_ | refine call_pure (im_areTri1L n l hl) (by cbv) ?_); cbv; ((try simp only [IfP_iff, and_true, true_and, decide_eq_true_eq, decide_eq_false_iff_not]); (try simp only [natc, getI_gi, at2_0, at2_1]); (try dsimp only [Ty.den]); (try simp only [natc] at *); (repeat' (first | apply And.intro | intro _)))))
    all_goals (try (simp only [IfP_iff, EqU_iff, Obl_iff, and_true, true_and, inI_iff, decide_eq_true_eq, decide_eq_false_iff_not]; (try simp only [natc, getI_gi, at2_0, at2_1]); (try dsimp only [Ty.den]); try simp only [natc] at *))
    ((try simp only [IfP_iff, and_true, true_and, decide_eq_true_eq, decide_eq_false_iff_not]); (try simp only [natc, getI_gi, at2_0, at2_1]); (try dsimp only [Ty.den]); (try simp only [natc] at *); (repeat' (first | apply And.intro | intro _)))
    all_goals (try (exact absurd (by assumption : (!triV n l) = false) (by rw [hv]; decide)))
    all_goals (try (simp only [IfP_iff, EqU_iff, Obl_iff, and_true, true_and, inI_iff, decide_eq_true_eq, decide_eq_false_iff_not]; (try simp only [natc, getI_gi, at2_0, at2_1]); (try dsimp only [Ty.den]); try simp only [natc] at *))
  have h8 : earR n l = earL n l := by unfold earR; rw [if_pos hv]
  have hp := triV_poly hv
  have hb : (pref (fun _ => true) n.toNat).length ≤ 1048576 := by
    have := pref_len (p := fun _ => true) (k := n) (by omega)
    omega
  have hd : Spec2 Try.prog 49 [.ref 0, .fnr 58 fun _ => ofCaps [.ibox [.sl .int fun _ => l] 0]] [some (.row 3 .int fun _ => pref (fun _ => true) n.toNat)] [.ref 1] [none, some (.row 3 .int fun _ => earL n l)] := by
    have h := go_delF 58 (fun _ => ofCaps [.ibox [.sl .int fun _ => l] 0]) (someAt l) (pref (fun _ => true) n.toNat) hb fun c _ => ⟨_, rfl, fun _ => rfl, im_ears1 l c hl fun x hx => triV_in hv hx⟩
    rw [← ear_below]
    exact h
  rw [hv, h8]
  refine fnS [3] [4, 5] Try.func26 rfl (by decide) rfl (by decide) (by kernel_rfl) rfl (by simp [Try.ntmps26]) ?_
  cbv
  repeat' (first | ((first | refine call_q (im_areTri1L n l hl) (by cbv) ?_ | refine call_pure (im_areTri1L n l hl) (by cbv) ?_); cbv; ((try simp only [IfP_iff, and_true, true_and, decide_eq_true_eq, decide_eq_false_iff_not]); (try simp only [natc, getI_gi, at2_0, at2_1]); (try dsimp only [Ty.den]); (try simp only [natc] at *); (repeat' (first | apply And.intro | intro _)))))
  all_goals (try (simp only [IfP_iff, EqU_iff, Obl_iff, and_true, true_and, inI_iff, decide_eq_true_eq, decide_eq_false_iff_not]; (try simp only [natc, getI_gi, at2_0, at2_1]); (try dsimp only [Ty.den]); try simp only [natc] at *))
  ((try simp only [IfP_iff, and_true, true_and, decide_eq_true_eq, decide_eq_false_iff_not]); (try simp only [natc, getI_gi, at2_0, at2_1]); (try dsimp only [Ty.den]); (try simp only [natc] at *); (repeat' (first | apply And.intro | intro _)))
  all_goals (try (exact absurd (by assumption : (!triV n l) = true) (by rw [hv]; decide)))
  all_goals (repeat' (first | ((first | refine call_q (im_below n (by omega) (by omega)) (by cbv) ?_ | refine call_pure (im_below n (by omega) (by omega)) (by cbv) ?_); cbv; ((try simp only [IfP_iff, and_true, true_and, decide_eq_true_eq, decide_eq_false_iff_not]); (try simp only [natc, getI_gi, at2_0, at2_1]); (try dsimp only [Ty.den]); (try simp only [natc] at *); (repeat' (first | apply And.intro | intro _))))))
  all_goals (try (simp only [IfP_iff, EqU_iff, Obl_iff, and_true, true_and, inI_iff, decide_eq_true_eq, decide_eq_false_iff_not]; (try simp only [natc, getI_gi, at2_0, at2_1]); (try dsimp only [Ty.den]); try simp only [natc] at *))
  refine call_own 2 hd (by cbv) (by cbv; simp only [or_true, true_or, and_true]; exact ⟨trivial, .inl rfl⟩) ?_
  cbv
  all_goals (try (simp only [IfP_iff, EqU_iff, Obl_iff, and_true, true_and, inI_iff, decide_eq_true_eq, decide_eq_false_iff_not]; (try simp only [natc, getI_gi, at2_0, at2_1]); (try dsimp only [Ty.den]); try simp only [natc] at *))
def atN (l : List Int) (c : Int) : Int := cntB l (fun x => atB x c) l.length
theorem at_zero (l : List Int) (c : Int) : atN l c = 0 ↔ someAt l c = false := by
  unfold atN cntB someAt
  rw [List.take_length, List.any_eq_false]
  have : ((l.filter fun x => atB x c).length : Int) = 0 ↔ l.filter (fun x => atB x c) = [] := by
    rw [← List.length_eq_zero_iff]; omega
  rw [this, List.filter_eq_nil_iff]
theorem sp_at (l : List Int) (c : Int) (hl : l.length ≤ 1048576) (hx : ∀ x ∈ l, 0 ≤ x ∧ x < 100) : Spec2 Try.prog 57 [.sl .int fun _ => l, .int fun _ => c] [] [.int fun _ => atN l c] [] := by
  refine fnS [] [4] Try.func57 rfl (by decide) rfl (by decide) (by kernel_rfl) rfl (by simp [Try.ntmps57]) ?_
  cbv
  refine loopP (by kernel_rfl) (fun k : Int => 0 ≤ k ∧ k ≤ l.length) (fun k => [(6, .int fun _ => k), (5, .int fun _ => cntB l (fun x => atB x c) k.toNat)]) (fun k => []) (fun k => (l.length - k).toNat) (· + 1) 0 (by omega) ?_ ?_
  · cbv
    (simp only [IfP_iff, EqU_iff, Obl_iff, and_true, true_and, inI_iff, decide_eq_true_eq, decide_eq_false_iff_not]; (try simp only [natc, getI_gi, at2_0, at2_1]); (try dsimp only [Ty.den]); try simp only [natc] at *)
    simp [cntB]
  · intro k hk
    have c1 := cntB_in l (fun x => atB x c) k.toNat
    have c2 := fun h => cntB_next (l := l) (p := fun x => atB x c) (k := k) hk.1 h
    have c3 : k < (l.length : Int) → inI ((gi l k).tdiv 10) := fun h => by
      have h4 := hx _ (gi_mem hk.1 h)
      have := td_in h4.1 h4.2
      unfold inI; omega
    have c4 : ¬ k < (l.length : Int) → cntB l (fun x => atB x c) k.toNat = atN l c := fun h => by unfold atN; rw [show k.toNat = l.length by omega]
    have c5 : k < (l.length : Int) → (gi l k).tdiv 10 = c ∨ (gi l k).tmod 10 = c → cntB l (fun x => atB x c) (k + 1).toNat = cntB l (fun x => atB x c) k.toNat + 1 := fun h e => by rw [c2 h, if_pos (by unfold atB; simp [e])]
    have c6 : k < (l.length : Int) → ¬ (gi l k).tdiv 10 = c → ¬ (gi l k).tmod 10 = c → cntB l (fun x => atB x c) (k + 1).toNat = cntB l (fun x => atB x c) k.toNat := fun h e1 e2 => by rw [c2 h, if_neg (by unfold atB; simp [e1, e2])]; omega
    clear c2 hx
    cbv
    ((try simp only [IfP_iff, and_true, true_and, decide_eq_true_eq, decide_eq_false_iff_not]); (try simp only [natc, getI_gi, at2_0, at2_1]); (try dsimp only [Ty.den]); (try simp only [natc] at *); (repeat' (first | apply And.intro | intro _)))
    all_goals (try (simp only [IfP_iff, EqU_iff, Obl_iff, and_true, true_and, inI_iff, decide_eq_true_eq, decide_eq_false_iff_not]; (try simp only [natc, getI_gi, at2_0, at2_1]); (try dsimp only [Ty.den]); try simp only [natc] at *))
    all_goals ((repeat' (first | apply And.intro | intro _)) <;> first | omega | (exact c4 (by assumption)) | (have q := c3 (by assumption); unfold inI at q; omega) | (have q := c5 (by assumption) (.inl (by assumption)); omega) | (have q := c5 (by assumption) (.inr (by assumption)); omega) | (have q := c6 (by assumption) (by assumption) (by assumption); omega) | trace_state)
theorem sp_ears (n : Int) (l : List Int) (hl : l.length ≤ 1048576) : Spec2 Try.prog 25 [.int fun _ => n, .sl .int fun _ => l] [] [.ref 0, .bool fun _ => triV n l] [some (.row 3 .int fun _ => earR n l)] := by
  by_cases hv : triV n l = true
  case neg =>
    have h8 : earR n l = [] := by unfold earR; rw [if_neg hv]
    rw [Bool.not_eq_true] at hv
    rw [hv, h8]
    refine fnS [0] [4, 5] Try.func25 rfl (by decide) rfl (by decide) (by kernel_rfl) rfl (by simp [Try.ntmps25]) ?_
    cbv
    repeat' (first | ((first | refine call_q (sp_valid n l hl) (by cbv) ?_ | refine call_pure (sp_valid n l hl) (by cbv) ?_); cbv; ((try simp only [IfP_iff, and_true, true_and, decide_eq_true_eq, decide_eq_false_iff_not]); (try simp only [natc, getI_gi, at2_0, at2_1]); (try dsimp only [Ty.den]); (try simp only [natc] at *); (repeat' (first | apply And.intro | intro _)))))
    all_goals (try (simp only [IfP_iff, EqU_iff, Obl_iff, and_true, true_and, inI_iff, decide_eq_true_eq, decide_eq_false_iff_not]; (try simp only [natc, getI_gi, at2_0, at2_1]); (try dsimp only [Ty.den]); try simp only [natc] at *))
    ((try simp only [IfP_iff, and_true, true_and, decide_eq_true_eq, decide_eq_false_iff_not]); (try simp only [natc, getI_gi, at2_0, at2_1]); (try dsimp only [Ty.den]); (try simp only [natc] at *); (repeat' (first | apply And.intro | intro _)))
    all_goals (try (exact absurd (by assumption : (!triV n l) = false) (by rw [hv]; decide)))
    all_goals (try (simp only [IfP_iff, EqU_iff, Obl_iff, and_true, true_and, inI_iff, decide_eq_true_eq, decide_eq_false_iff_not]; (try simp only [natc, getI_gi, at2_0, at2_1]); (try dsimp only [Ty.den]); try simp only [natc] at *))
  have h8 : earR n l = earL n l := by unfold earR; rw [if_pos hv]
  have hp := triV_poly hv
  have hx : ∀ x ∈ l, 0 ≤ x ∧ x < 100 := fun x hx => triV_in hv hx
  rw [hv, h8]
  refine fnS [0] [4, 5] Try.func25 rfl (by decide) rfl (by decide) (by kernel_rfl) rfl (by simp [Try.ntmps25]) ?_
  cbv
  repeat' (first | ((first | refine call_q (sp_valid n l hl) (by cbv) ?_ | refine call_pure (sp_valid n l hl) (by cbv) ?_); cbv; ((try simp only [IfP_iff, and_true, true_and, decide_eq_true_eq, decide_eq_false_iff_not]); (try simp only [natc, getI_gi, at2_0, at2_1]); (try dsimp only [Ty.den]); (try simp only [natc] at *); (repeat' (first | apply And.intro | intro _)))))
  all_goals (try (simp only [IfP_iff, EqU_iff, Obl_iff, and_true, true_and, inI_iff, decide_eq_true_eq, decide_eq_false_iff_not]; (try simp only [natc, getI_gi, at2_0, at2_1]); (try dsimp only [Ty.den]); try simp only [natc] at *))
  ((try simp only [IfP_iff, and_true, true_and, decide_eq_true_eq, decide_eq_false_iff_not]); (try simp only [natc, getI_gi, at2_0, at2_1]); (try dsimp only [Ty.den]); (try simp only [natc] at *); (repeat' (first | apply And.intro | intro _)))
  all_goals (try (exact absurd (by assumption : (!triV n l) = true) (by rw [hv]; decide)))
  refine loopP (by kernel_rfl) (fun k : Int => 0 ≤ k ∧ k ≤ n) (fun k => [(7, .int fun _ => k), (6, .ref 0), (8, .junk)]) (fun k => [(0, some (.row 3 .int fun _ => pref (fun c => !someAt l c) k.toNat))]) (fun k => (n - k).toNat) (· + 1) 0 (by omega) ?_ ?_
  · cbv
    (simp only [IfP_iff, EqU_iff, Obl_iff, and_true, true_and, inI_iff, decide_eq_true_eq, decide_eq_false_iff_not]; (try simp only [natc, getI_gi, at2_0, at2_1]); (try dsimp only [Ty.den]); try simp only [natc] at *)
    simp [pref]
  · intro k hk
    have b1 := pref_next (p := fun c => !someAt l c) hk.1
    have b2 := pref_len (p := fun c => !someAt l c) hk.1
    have b3 : ¬ k < n → pref (fun c => !someAt l c) k.toNat = earL n l := fun h => by rw [show k = n by omega]; rfl
    have b4 : atN l k = 0 → pref (fun c => !someAt l c) k.toNat ++ [k] = pref (fun c => !someAt l c) (k + 1).toNat := fun h => by rw [b1, if_pos (by rw [(at_zero l k).1 h]; rfl)]
    have b5 : ¬ atN l k = 0 → pref (fun c => !someAt l c) k.toNat = pref (fun c => !someAt l c) (k + 1).toNat := fun h => by
      rw [b1, if_neg (fun e => h ((at_zero l k).2 (by simpa using e))), List.append_nil]
    clear b1
    cbv
    ((try simp only [IfP_iff, and_true, true_and, decide_eq_true_eq, decide_eq_false_iff_not]); (try simp only [natc, getI_gi, at2_0, at2_1]); (try dsimp only [Ty.den]); (try simp only [natc] at *); (repeat' (first | apply And.intro | intro _)))
    all_goals (repeat' (first | ((first | refine call_q (sp_at l k hl hx) (by cbv) ?_ | refine call_pure (sp_at l k hl hx) (by cbv) ?_); cbv; ((try simp only [IfP_iff, and_true, true_and, decide_eq_true_eq, decide_eq_false_iff_not]); (try simp only [natc, getI_gi, at2_0, at2_1]); (try dsimp only [Ty.den]); (try simp only [natc] at *); (repeat' (first | apply And.intro | intro _))))))
    all_goals (try ((try simp only [IfP_iff, and_true, true_and, decide_eq_true_eq, decide_eq_false_iff_not]); (try simp only [natc, getI_gi, at2_0, at2_1]); (try dsimp only [Ty.den]); (try simp only [natc] at *); (repeat' (first | apply And.intro | intro _))))
    all_goals (try (simp only [IfP_iff, EqU_iff, Obl_iff, and_true, true_and, inI_iff, decide_eq_true_eq, decide_eq_false_iff_not]; (try simp only [natc, getI_gi, at2_0, at2_1]); (try dsimp only [Ty.den]); try simp only [natc] at *))
    all_goals ((repeat' (first | apply And.intro | intro _)) <;> first | omega | (exact b3 (by assumption)) | (exact b4 (by assumption)) | (exact b5 (by assumption)) | (rw [List.length_cons, List.length_nil]; omega) | trace_state)
theorem ear_le (n : Int) (l : List Int) (hl : l.length ≤ 1048576) : (earR n l).length ≤ 1048576 := by
  unfold earR
  split
  · rename_i h
    have := triV_poly h
    have := pref_len (p := fun c => !someAt l c) (k := n) (by omega)
    unfold earL
    omega
  · simp
end Go.Proofs.Ytbpheblbbdiapaa.M

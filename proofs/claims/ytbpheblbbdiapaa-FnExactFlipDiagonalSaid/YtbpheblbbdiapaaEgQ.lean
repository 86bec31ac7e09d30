/- FanBound: both sides. -/
import Derived.Test.YtbpheblbbdiapaaEdQ
import Derived.Test.YtbpheblbbdiapaaEbQ
import Derived.Test.YtbpheblbbdiapaaQg
namespace Go.Proofs.Ytbpheblbbdiapaa.M
open Go.RowKit Abs
set_option linter.unusedSimpArgs false
set_option linter.unusedVariables false
set_option maxRecDepth 100000
set_option maxHeartbeats 4000000
theorem im_cm (a b : List Int) (ha : a.length ≤ 1048576) (hb : b.length ≤ 1048576) : Spec2 Try.prog 69 [.sl .int fun _ => a, .sl .int fun _ => b] [] [.int fun _ => cntB a (fun x => !hasB b x) a.length] [] := by
  refine fnS [] [4] Try.func69 rfl (by decide) rfl (by decide) (by kernel_rfl) rfl (by simp [Try.ntmps69]) ?_
  cbv
  refine loopP (by kernel_rfl) (fun k : Int => 0 ≤ k ∧ k ≤ a.length) (fun k => [(10, .int fun _ => k), (5, .int fun _ => cntB a (fun x => !hasB b x) k.toNat), (7, .junk)]) (fun _ => []) (fun k => (a.length - k).toNat) (· + 1) 0 (by omega) ?_ ?_
  · cbv
    (simp only [IfP_iff, EqU_iff, Obl_iff, and_true, true_and, inI_iff, decide_eq_true_eq, decide_eq_false_iff_not]; (try simp only [natc, getI_gi, at2_0, at2_1]); (try dsimp only [Ty.den]); try simp only [natc] at *)
    simp [cntB]
  · intro k hk
    have h1 := fun h => cntB_next (l := a) (p := fun x => !hasB b x) (k := k) hk.1 h
    have h2 := cntB_in a (fun x => !hasB b x) k.toNat
    have h3 : ¬ k < (a.length : Int) → cntB a (fun x => !hasB b x) k.toNat = cntB a (fun x => !hasB b x) a.length := fun h => by rw [show k.toNat = a.length by omega]
    have h4 : k < (a.length : Int) → (!hasB b (gi a k)) = true → cntB a (fun x => !hasB b x) (k + 1).toNat = cntB a (fun x => !hasB b x) k.toNat + 1 := fun h e => by rw [h1 h, if_pos e]
    have h5 : k < (a.length : Int) → (!hasB b (gi a k)) = false → cntB a (fun x => !hasB b x) (k + 1).toNat = cntB a (fun x => !hasB b x) k.toNat := fun h e => by rw [h1 h, if_neg (by rw [e]; decide)]; omega
    clear h1
    cbv
    ((try simp only [IfP_iff, and_true, true_and, decide_eq_true_eq, decide_eq_false_iff_not]); (try simp only [natc, getI_gi, at2_0, at2_1]); (try dsimp only [Ty.den]); (try simp only [natc] at *); (repeat' (first | apply And.intro | intro _)))
    all_goals (repeat' (first | ((first | refine call_q (go_contains b (gi a k) hb) (by cbv) ?_ | refine call_pure (go_contains b (gi a k) hb) (by cbv) ?_); cbv; ((try simp only [IfP_iff, and_true, true_and, decide_eq_true_eq, decide_eq_false_iff_not]); (try simp only [natc, getI_gi, at2_0, at2_1]); (try dsimp only [Ty.den]); (try simp only [natc] at *); (repeat' (first | apply And.intro | intro _))))))
    all_goals (try ((try simp only [IfP_iff, and_true, true_and, decide_eq_true_eq, decide_eq_false_iff_not]); (try simp only [natc, getI_gi, at2_0, at2_1]); (try dsimp only [Ty.den]); (try simp only [natc] at *); (repeat' (first | apply And.intro | intro _))))
    all_goals (try (simp only [IfP_iff, EqU_iff, Obl_iff, and_true, true_and, inI_iff, decide_eq_true_eq, decide_eq_false_iff_not]; (try simp only [natc, getI_gi, at2_0, at2_1]); (try dsimp only [Ty.den]); try simp only [natc] at *))
    all_goals ((repeat' (first | apply And.intro | intro _)) <;> first | omega | (exact h3 (by assumption)) | (have q := h4 (by assumption) (by assumption); omega) | (have q := h5 (by assumption) (by assumption); omega) | trace_state)
theorem sp_lstM (a b : Int) : Spec2 Try.prog 63 [.int fun _ => a, .int fun _ => b] [] [.int fun _ => min a b] [] := by
  refine fnS [] [4] Try.func63 rfl (by decide) rfl (by decide) (by kernel_rfl) rfl (by simp [Try.ntmps63]) ?_
  cbv
  ((try simp only [IfP_iff, and_true, true_and, decide_eq_true_eq, decide_eq_false_iff_not]); (try simp only [natc, getI_gi, at2_0, at2_1]); (try dsimp only [Ty.den]); (try simp only [natc] at *); (repeat' (first | apply And.intro | intro _)))
  all_goals (try (simp only [IfP_iff, EqU_iff, Obl_iff, and_true, true_and, inI_iff, decide_eq_true_eq, decide_eq_false_iff_not]; (try simp only [natc, getI_gi, at2_0, at2_1]); (try dsimp only [Ty.den]); try simp only [natc] at *))
  all_goals ((repeat' (first | apply And.intro | intro _)) <;> omega)
theorem diag_asc {n : Int} (h0 : 3 ≤ n) (h1 : n ≤ 8) : (diagL n).Pairwise (· < ·) := by
  have h : n = 3 ∨ n = 4 ∨ n = 5 ∨ n = 6 ∨ n = 7 ∨ n = 8 := by omega
  rcases h with rfl | rfl | rfl | rfl | rfl | rfl <;> decide
theorem fan_fin : ∀ n : Fin 9, ∀ c : Fin 9, 3 ≤ n.val → c.val < n.val → (fanL (n.val : Int) (c.val : Int)).length = n.val - 3 := by decide +kernel
theorem fan_len {n c : Int} (h0 : 3 ≤ n) (h1 : n ≤ 8) (c0 : 0 ≤ c) (c1 : c < n) : ((fanL n c).length : Int) = n - 3 := by
  have h := fan_fin ⟨n.toNat, by omega⟩ ⟨c.toNat, by omega⟩ (by show 3 ≤ n.toNat; omega) (by show c.toNat < n.toNat; omega)
  simp only at h
  rw [show ((n.toNat : Nat) : Int) = n by omega, show ((c.toNat : Nat) : Int) = c by omega] at h
  omega
theorem filt_sum (p : Int → Bool) : ∀ l : List Int, (l.filter p).length + (l.filter fun x => !p x).length = l.length
  | [] => rfl
  | x :: l => by
    have := filt_sum p l
    by_cases h : p x = true
    · rw [List.filter_cons_of_pos h, List.filter_cons_of_neg (by rw [h]; decide), List.length_cons, List.length_cons]; omega
    · rw [List.filter_cons_of_neg h, List.filter_cons_of_pos (by simpa using h), List.length_cons, List.length_cons]; omega
theorem fan_both {n c : Int} {a : List Int} (ha : triV n a = true) : (fanL n c).filter (hasB a) = a.filter fun x => atB x c := by
  have hp := triV_poly ha
  unfold fanL
  refine asc_eq (((diag_asc hp.1 hp.2).filter _).filter _) ((triV_pw ha).filter _) fun x => ?_
  simp only [List.mem_filter, hasB_iff]
  constructor
  · rintro ⟨⟨_, h2⟩, h3⟩; exact ⟨h3, h2⟩
  · rintro ⟨h1, h2⟩; exact ⟨⟨triV_mem ha h1, h2⟩, h1⟩
theorem fan_miss {n c : Int} {a : List Int} (ha : triV n a = true) (c0 : 0 ≤ c) (c1 : c < n) : cntB (fanR n c) (fun x => !hasB a x) (fanR n c).length = n - 3 - atN a c := by
  have hp := triV_poly ha
  have h1 := fan_len hp.1 hp.2 c0 c1
  have h2 := filt_sum (hasB a) (fanL n c)
  have h3 : fanR n c = fanL n c := by
    unfold fanR
    rw [if_pos]
    unfold fanV polyB
    rw [decide_eq_true hp.1, decide_eq_true hp.2, decide_eq_true c0, decide_eq_true c1]; rfl
  rw [fan_both ha] at h2
  rw [h3]
  unfold atN cntB
  rw [List.take_length, List.take_length]
  omega
theorem atN_in {n : Int} {a : List Int} (ha : triV n a = true) (c : Int) : 0 ≤ atN a c ∧ atN a c ≤ 5 := by
  have h1 := cntB_in a (fun x => atB x c) a.length
  have h2 := triV_len ha
  have h3 := triV_poly ha
  unfold atN
  omega
def fbV (n : Int) (a b : List Int) (c : Int) : Int := 2 * (n - 3) - atN a c - atN b c
def minTo (n : Int) (a b : List Int) (s : Int) : Nat → Int
  | 0 => s
  | k + 1 => min (minTo n a b s k) (fbV n a b k)
theorem minTo_next {n s : Int} {a b : List Int} {k : Int} (h : 0 ≤ k) : minTo n a b s (k + 1).toNat = min (minTo n a b s k.toNat) (fbV n a b k) := by
  rw [show (k + 1).toNat = k.toNat + 1 by omega]
  conv => lhs; unfold minTo
  rw [show ((k.toNat : Nat) : Int) = k by omega]
theorem minTo_in {n s : Int} {a b : List Int} (ha : triV n a = true) (hb : triV n b = true) (s0 : 0 ≤ s) (s1 : s ≤ 16) : ∀ k : Nat, -10 ≤ minTo n a b s k ∧ minTo n a b s k ≤ 16
  | 0 => by unfold minTo; omega
  | k + 1 => by
    have h1 := minTo_in ha hb s0 s1 k
    have h2 := atN_in ha k
    have h3 := atN_in hb k
    have h4 := triV_poly ha
    unfold minTo fbV
    omega
theorem minTo_same {n : Int} {a b : List Int} (ha : triV n a = true) (hb : triV n b = true) : ∀ k : Nat, minTo n a b (2 * n) (k + 1) = minTo n a b (2 * (n - 3)) (k + 1)
  | 0 => by
    have h2 := atN_in ha 0
    have h3 := atN_in hb 0
    show min (2 * n) (fbV n a b 0) = min (2 * (n - 3)) (fbV n a b 0)
    unfold fbV
    omega
  | k + 1 => by
    have h := minTo_same ha hb k
    show min (minTo n a b (2 * n) (k + 1)) (fbV n a b (k + 1 : Nat)) = min (minTo n a b (2 * (n - 3)) (k + 1)) (fbV n a b (k + 1 : Nat))
    rw [h]
def fbR (n : Int) (a b : List Int) : Int := if vv n a b = true then minTo n a b (2 * (n - 3)) n.toNat else 0
theorem im_fanBound (n : Int) (a b : List Int) (ha : a.length ≤ 1048576) (hb : b.length ≤ 1048576) : Spec2 Try.prog 30 [.int fun _ => n, .sl .int fun _ => a, .sl .int fun _ => b] [] [.int fun _ => fbR n a b, .bool fun _ => vv n a b] [] := by
  by_cases hv : vv n a b = true
  case neg =>
    have h8 : fbR n a b = 0 := by unfold fbR; rw [if_neg hv]
    rw [Bool.not_eq_true] at hv
    rw [hv, h8]
    refine fnS [] [6, 7] Try.func30 rfl (by decide) rfl (by decide) (by kernel_rfl) rfl (by simp [Try.ntmps30]) ?_
    cbv
    repeat' (first | ((first | refine call_q (im_areTri2 n a b ha hb) (by cbv) ?_ | refine call_pure (im_areTri2 n a b ha hb) (by cbv) ?_); cbv; ((try simp only [IfP_iff, and_true, true_and, decide_eq_true_eq, decide_eq_false_iff_not]); (try simp only [natc, getI_gi, at2_0, at2_1]); (try dsimp only [Ty.den]); (try simp only [natc] at *); (repeat' (first | apply And.intro | intro _)))))
    all_goals (try (simp only [IfP_iff, EqU_iff, Obl_iff, and_true, true_and, inI_iff, decide_eq_true_eq, decide_eq_false_iff_not]; (try simp only [natc, getI_gi, at2_0, at2_1]); (try dsimp only [Ty.den]); try simp only [natc] at *))
    ((try simp only [IfP_iff, and_true, true_and, decide_eq_true_eq, decide_eq_false_iff_not]); (try simp only [natc, getI_gi, at2_0, at2_1]); (try dsimp only [Ty.den]); (try simp only [natc] at *); (repeat' (first | apply And.intro | intro _)))
    all_goals (try (exact absurd (by assumption : (!vv n a b) = false) (by rw [hv]; decide)))
    all_goals (try (simp only [IfP_iff, EqU_iff, Obl_iff, and_true, true_and, inI_iff, decide_eq_true_eq, decide_eq_false_iff_not]; (try simp only [natc, getI_gi, at2_0, at2_1]); (try dsimp only [Ty.den]); try simp only [natc] at *))
  have h8 : fbR n a b = minTo n a b (2 * (n - 3)) n.toNat := by unfold fbR; rw [if_pos hv]
  have hv2 := hv
  unfold vv at hv2
  simp only [Bool.and_eq_true] at hv2
  obtain ⟨va, vb⟩ := hv2
  have hp := triV_poly va
  rw [hv, h8]
  refine fnS [] [6, 7] Try.func30 rfl (by decide) rfl (by decide) (by kernel_rfl) rfl (by simp [Try.ntmps30]) ?_
  cbv
  repeat' (first | ((first | refine call_q (im_areTri2 n a b ha hb) (by cbv) ?_ | refine call_pure (im_areTri2 n a b ha hb) (by cbv) ?_); cbv; ((try simp only [IfP_iff, and_true, true_and, decide_eq_true_eq, decide_eq_false_iff_not]); (try simp only [natc, getI_gi, at2_0, at2_1]); (try dsimp only [Ty.den]); (try simp only [natc] at *); (repeat' (first | apply And.intro | intro _)))))
  all_goals (try (simp only [IfP_iff, EqU_iff, Obl_iff, and_true, true_and, inI_iff, decide_eq_true_eq, decide_eq_false_iff_not]; (try simp only [natc, getI_gi, at2_0, at2_1]); (try dsimp only [Ty.den]); try simp only [natc] at *))
  ((try simp only [IfP_iff, and_true, true_and, decide_eq_true_eq, decide_eq_false_iff_not]); (try simp only [natc, getI_gi, at2_0, at2_1]); (try dsimp only [Ty.den]); (try simp only [natc] at *); (repeat' (first | apply And.intro | intro _)))
  all_goals (try (exact absurd (by assumption : (!vv n a b) = true) (by rw [hv]; decide)))
  all_goals (try omega)
  refine loopP (by kernel_rfl) (fun k : Int => 0 ≤ k ∧ k ≤ n) (fun k => [(22, .int fun _ => k), (8, .int fun _ => minTo n a b (2 * (n - 3)) k.toNat), (9, .junk), (10, .junk), (11, .junk)]) (fun k => []) (fun k => (n - k).toNat) (· + 1) 0 (by omega) ?_ ?_
  · cbv
    (simp only [IfP_iff, EqU_iff, Obl_iff, and_true, true_and, inI_iff, decide_eq_true_eq, decide_eq_false_iff_not]; (try simp only [natc, getI_gi, at2_0, at2_1]); (try dsimp only [Ty.den]); try simp only [natc] at *)
    rfl
  · intro k hk
    have b1 := minTo_in va vb (s := 2 * (n - 3)) (by omega) (by omega) k.toNat
    have b2 := minTo_next (n := n) (s := 2 * (n - 3)) (a := a) (b := b) hk.1
    have b3 : ¬ k < n → minTo n a b (2 * (n - 3)) k.toNat = minTo n a b (2 * (n - 3)) n.toNat := fun h => by rw [show k = n by omega]
    have b4 := atN_in va k
    have b5 := atN_in vb k
    have b6 : k < n → cntB (fanR n k) (fun x => !hasB a x) (fanR n k).length = n - 3 - atN a k := fun h => fan_miss va hk.1 h
    have b7 : k < n → cntB (fanR n k) (fun x => !hasB b x) (fanR n k).length = n - 3 - atN b k := fun h => fan_miss vb hk.1 h
    have b8 : k < n → min (minTo n a b (2 * (n - 3)) k.toNat) (cntB (fanR n k) (fun x => !hasB a x) (fanR n k).length + cntB (fanR n k) (fun x => !hasB b x) (fanR n k).length) = minTo n a b (2 * (n - 3)) (k + 1).toNat := fun h => by
      rw [b2, b6 h, b7 h, show n - 3 - atN a k + (n - 3 - atN b k) = fbV n a b k by unfold fbV; omega]
    clear b2
    cbv
    ((try simp only [IfP_iff, and_true, true_and, decide_eq_true_eq, decide_eq_false_iff_not]); (try simp only [natc, getI_gi, at2_0, at2_1]); (try dsimp only [Ty.den]); (try simp only [natc] at *); (repeat' (first | apply And.intro | intro _)))
    all_goals (repeat' (first | ((first | refine call_q (im_fan n k) (by cbv) ?_ | refine call_pure (im_fan n k) (by cbv) ?_); cbv; ((try simp only [IfP_iff, and_true, true_and, decide_eq_true_eq, decide_eq_false_iff_not]); (try simp only [natc, getI_gi, at2_0, at2_1]); (try dsimp only [Ty.den]); (try simp only [natc] at *); (repeat' (first | apply And.intro | intro _)))) | ((first | refine call_q (im_cm (fanR n k) a (fan_le n k) ha) (by cbv) ?_ | refine call_pure (im_cm (fanR n k) a (fan_le n k) ha) (by cbv) ?_); cbv; ((try simp only [IfP_iff, and_true, true_and, decide_eq_true_eq, decide_eq_false_iff_not]); (try simp only [natc, getI_gi, at2_0, at2_1]); (try dsimp only [Ty.den]); (try simp only [natc] at *); (repeat' (first | apply And.intro | intro _)))) | ((first | refine call_q (im_cm (fanR n k) b (fan_le n k) hb) (by cbv) ?_ | refine call_pure (im_cm (fanR n k) b (fan_le n k) hb) (by cbv) ?_); cbv; ((try simp only [IfP_iff, and_true, true_and, decide_eq_true_eq, decide_eq_false_iff_not]); (try simp only [natc, getI_gi, at2_0, at2_1]); (try dsimp only [Ty.den]); (try simp only [natc] at *); (repeat' (first | apply And.intro | intro _))))))
    all_goals (try ((try simp only [IfP_iff, and_true, true_and, decide_eq_true_eq, decide_eq_false_iff_not]); (try simp only [natc, getI_gi, at2_0, at2_1]); (try dsimp only [Ty.den]); (try simp only [natc] at *); (repeat' (first | apply And.intro | intro _))))
    all_goals (try (simp only [IfP_iff, EqU_iff, Obl_iff, and_true, true_and, inI_iff, decide_eq_true_eq, decide_eq_false_iff_not]; (try simp only [natc, getI_gi, at2_0, at2_1]); (try dsimp only [Ty.den]); try simp only [natc] at *))
    all_goals ((repeat' (first | apply And.intro | intro _)) <;> first | omega | (exact b3 (by assumption)) | (exact b8 (by assumption)) | (have q1 := b6 (by assumption); have q2 := b7 (by assumption); omega) | trace_state)
theorem sp_fanBound (n : Int) (a b : List Int) (ha : a.length ≤ 1048576) (hb : b.length ≤ 1048576) : Spec2 Try.prog 29 [.int fun _ => n, .sl .int fun _ => a, .sl .int fun _ => b] [] [.int fun _ => fbR n a b, .bool fun _ => vv n a b] [] := by
  by_cases hv : vv n a b = true
  case neg =>
    have h8 : fbR n a b = 0 := by unfold fbR; rw [if_neg hv]
    rw [Bool.not_eq_true] at hv
    rw [hv, h8]
    refine fnS [] [6, 7] Try.func29 rfl (by decide) rfl (by decide) (by kernel_rfl) rfl (by simp [Try.ntmps29]) ?_
    cbv
    repeat' (first | ((first | refine call_q (sp_valid n a ha) (by cbv) ?_ | refine call_pure (sp_valid n a ha) (by cbv) ?_); cbv; ((try simp only [IfP_iff, and_true, true_and, decide_eq_true_eq, decide_eq_false_iff_not]); (try simp only [natc, getI_gi, at2_0, at2_1]); (try dsimp only [Ty.den]); (try simp only [natc] at *); (repeat' (first | apply And.intro | intro _)))))
    all_goals (try (simp only [IfP_iff, EqU_iff, Obl_iff, and_true, true_and, inI_iff, decide_eq_true_eq, decide_eq_false_iff_not]; (try simp only [natc, getI_gi, at2_0, at2_1]); (try dsimp only [Ty.den]); try simp only [natc] at *))
    ((try simp only [IfP_iff, and_true, true_and, decide_eq_true_eq, decide_eq_false_iff_not]); (try simp only [natc, getI_gi, at2_0, at2_1]); (try dsimp only [Ty.den]); (try simp only [natc] at *); (repeat' (first | apply And.intro | intro _)))
    all_goals (repeat' (first | ((first | refine call_q (sp_valid n b hb) (by cbv) ?_ | refine call_pure (sp_valid n b hb) (by cbv) ?_); cbv; ((try simp only [IfP_iff, and_true, true_and, decide_eq_true_eq, decide_eq_false_iff_not]); (try simp only [natc, getI_gi, at2_0, at2_1]); (try dsimp only [Ty.den]); (try simp only [natc] at *); (repeat' (first | apply And.intro | intro _))))))
    all_goals (try ((try simp only [IfP_iff, and_true, true_and, decide_eq_true_eq, decide_eq_false_iff_not]); (try simp only [natc, getI_gi, at2_0, at2_1]); (try dsimp only [Ty.den]); (try simp only [natc] at *); (repeat' (first | apply And.intro | intro _))))
    all_goals (try (exact (two_valid hv (by assumption) (by assumption)).elim))
    all_goals (try (simp only [IfP_iff, EqU_iff, Obl_iff, and_true, true_and, inI_iff, decide_eq_true_eq, decide_eq_false_iff_not]; (try simp only [natc, getI_gi, at2_0, at2_1]); (try dsimp only [Ty.den]); try simp only [natc] at *))
  have hv2 := hv
  unfold vv at hv2
  simp only [Bool.and_eq_true] at hv2
  obtain ⟨va, vb⟩ := hv2
  have hp := triV_poly va
  have h8 : fbR n a b = minTo n a b (2 * n) n.toNat := by
    unfold fbR
    rw [if_pos hv]
    obtain ⟨m, hm⟩ : ∃ m : Nat, n.toNat = m + 1 := ⟨n.toNat - 1, by omega⟩
    rw [hm, minTo_same va vb]
  have xa : ∀ x ∈ a, 0 ≤ x ∧ x < 100 := fun x hx => triV_in va hx
  have xb : ∀ x ∈ b, 0 ≤ x ∧ x < 100 := fun x hx => triV_in vb hx
  rw [hv, h8]
  refine fnS [] [6, 7] Try.func29 rfl (by decide) rfl (by decide) (by kernel_rfl) rfl (by simp [Try.ntmps29]) ?_
  cbv
  repeat' (first | ((first | refine call_q (sp_valid n a ha) (by cbv) ?_ | refine call_pure (sp_valid n a ha) (by cbv) ?_); cbv; ((try simp only [IfP_iff, and_true, true_and, decide_eq_true_eq, decide_eq_false_iff_not]); (try simp only [natc, getI_gi, at2_0, at2_1]); (try dsimp only [Ty.den]); (try simp only [natc] at *); (repeat' (first | apply And.intro | intro _)))))
  all_goals (try (simp only [IfP_iff, EqU_iff, Obl_iff, and_true, true_and, inI_iff, decide_eq_true_eq, decide_eq_false_iff_not]; (try simp only [natc, getI_gi, at2_0, at2_1]); (try dsimp only [Ty.den]); try simp only [natc] at *))
  ((try simp only [IfP_iff, and_true, true_and, decide_eq_true_eq, decide_eq_false_iff_not]); (try simp only [natc, getI_gi, at2_0, at2_1]); (try dsimp only [Ty.den]); (try simp only [natc] at *); (repeat' (first | apply And.intro | intro _)))
  all_goals (repeat' (first | ((first | refine call_q (sp_valid n b hb) (by cbv) ?_ | refine call_pure (sp_valid n b hb) (by cbv) ?_); cbv; ((try simp only [IfP_iff, and_true, true_and, decide_eq_true_eq, decide_eq_false_iff_not]); (try simp only [natc, getI_gi, at2_0, at2_1]); (try dsimp only [Ty.den]); (try simp only [natc] at *); (repeat' (first | apply And.intro | intro _))))))
  all_goals (try ((try simp only [IfP_iff, and_true, true_and, decide_eq_true_eq, decide_eq_false_iff_not]); (try simp only [natc, getI_gi, at2_0, at2_1]); (try dsimp only [Ty.den]); (try simp only [natc] at *); (repeat' (first | apply And.intro | intro _))))
  all_goals (try (exact absurd (by assumption : (!triV n a) = true) (by rw [va]; decide)))
  all_goals (try (exact absurd (by assumption : (!triV n b) = true) (by rw [vb]; decide)))
  all_goals (try (simp only [IfP_iff, EqU_iff, Obl_iff, and_true, true_and, inI_iff, decide_eq_true_eq, decide_eq_false_iff_not]; (try simp only [natc, getI_gi, at2_0, at2_1]); (try dsimp only [Ty.den]); try simp only [natc] at *))
  all_goals (try omega)
  all_goals (try (refine ⟨by omega, ?_⟩))
  refine loopP (by kernel_rfl) (fun k : Int => 0 ≤ k ∧ k ≤ n) (fun k => [(9, .int fun _ => k), (8, .int fun _ => minTo n a b (2 * n) k.toNat)]) (fun k => []) (fun k => (n - k).toNat) (· + 1) 0 (by omega) ?_ ?_
  · cbv
    (simp only [IfP_iff, EqU_iff, Obl_iff, and_true, true_and, inI_iff, decide_eq_true_eq, decide_eq_false_iff_not]; (try simp only [natc, getI_gi, at2_0, at2_1]); (try dsimp only [Ty.den]); try simp only [natc] at *)
    rfl
  · intro k hk
    have b1 := minTo_in va vb (s := 2 * n) (by omega) (by omega) k.toNat
    have b2 := minTo_next (n := n) (s := 2 * n) (a := a) (b := b) hk.1
    have b3 : ¬ k < n → minTo n a b (2 * n) k.toNat = minTo n a b (2 * n) n.toNat := fun h => by rw [show k = n by omega]
    have b4 := atN_in va k
    have b5 := atN_in vb k
    have b6 : min (minTo n a b (2 * n) k.toNat) (2 * (n - 3) - atN a k - atN b k) = minTo n a b (2 * n) (k + 1).toNat := b2.symm
    clear b2
    cbv
    ((try simp only [IfP_iff, and_true, true_and, decide_eq_true_eq, decide_eq_false_iff_not]); (try simp only [natc, getI_gi, at2_0, at2_1]); (try dsimp only [Ty.den]); (try simp only [natc] at *); (repeat' (first | apply And.intro | intro _)))
    all_goals (repeat' (first | ((first | refine call_q (sp_at a k ha xa) (by cbv) ?_ | refine call_pure (sp_at a k ha xa) (by cbv) ?_); cbv; ((try simp only [IfP_iff, and_true, true_and, decide_eq_true_eq, decide_eq_false_iff_not]); (try simp only [natc, getI_gi, at2_0, at2_1]); (try dsimp only [Ty.den]); (try simp only [natc] at *); (repeat' (first | apply And.intro | intro _)))) | ((first | refine call_q (sp_at b k hb xb) (by cbv) ?_ | refine call_pure (sp_at b k hb xb) (by cbv) ?_); cbv; ((try simp only [IfP_iff, and_true, true_and, decide_eq_true_eq, decide_eq_false_iff_not]); (try simp only [natc, getI_gi, at2_0, at2_1]); (try dsimp only [Ty.den]); (try simp only [natc] at *); (repeat' (first | apply And.intro | intro _)))) | ((first | refine call_q (sp_lstM (minTo n a b (2 * n) k.toNat) (2 * (n - 3) - atN a k - atN b k)) (by cbv) ?_ | refine call_pure (sp_lstM (minTo n a b (2 * n) k.toNat) (2 * (n - 3) - atN a k - atN b k)) (by cbv) ?_); cbv; ((try simp only [IfP_iff, and_true, true_and, decide_eq_true_eq, decide_eq_false_iff_not]); (try simp only [natc, getI_gi, at2_0, at2_1]); (try dsimp only [Ty.den]); (try simp only [natc] at *); (repeat' (first | apply And.intro | intro _))))))
    all_goals (try ((try simp only [IfP_iff, and_true, true_and, decide_eq_true_eq, decide_eq_false_iff_not]); (try simp only [natc, getI_gi, at2_0, at2_1]); (try dsimp only [Ty.den]); (try simp only [natc] at *); (repeat' (first | apply And.intro | intro _))))
    all_goals (try (simp only [IfP_iff, EqU_iff, Obl_iff, and_true, true_and, inI_iff, decide_eq_true_eq, decide_eq_false_iff_not]; (try simp only [natc, getI_gi, at2_0, at2_1]); (try dsimp only [Ty.den]); try simp only [natc] at *))
    all_goals ((repeat' (first | apply And.intro | intro _)) <;> first | omega | (exact b3 (by assumption)) | (exact b6) | trace_state)
end Go.Proofs.Ytbpheblbbdiapaa.M

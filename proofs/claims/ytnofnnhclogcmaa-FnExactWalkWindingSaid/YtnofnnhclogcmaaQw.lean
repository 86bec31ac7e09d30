/- Zo, Zp, Zq, Zr, in one text. -/
import Derived.Test.YtnofnnhclogcmaaQx
import Derived.Test.YtnofnnhclogcmaaQg
import Derived.Test.YtnofnnhclogcmaaQz
import Derived.Test.YtnofnnhclogcmaaGlQ
/- WalkWinding, SlackOf, IsClosedWalk: the program. -/
namespace Go.Proofs.Ytnofnnhclogcmaa.M
open Go.RowKit Abs
set_option linter.unusedSimpArgs false
set_option linter.unusedVariables false
set_option maxRecDepth 100000
set_option maxHeartbeats 4000000
theorem im_winding (n : Int) (w : List Int) (hw : w.length ≤ 1048576) : Spec2 Try.prog 19 [.int fun _ => n, .sl .int fun _ => w] [] [.int fun _ => wndR n w, .bool fun _ => clB n w true] [] := by
  have e0 := im_heightsOf n w hw
  cases hc : clB n w true with
  | true =>
    rw [hc, show hgtR n w = hgts n w w.length by unfold hgtR; rw [if_pos hc]] at e0
    obtain ⟨n3, n8, h3, l3, l24, h6⟩ := cl_get hc
    have d1 : gi (hgts n w w.length) (w.length : Int) = hgt n w w.length := hgts_at (by omega) (by omega)
    have d0 : gi (hgts n w w.length) 0 = gi w 0 := hgts_at (Int.le_refl _) (by omega)
    have d2 := cl_hgt hc (k := w.length) (Nat.le_refl _)
    have d3 : (((hgts n w w.length).length : Nat) : Int) = w.length + 1 := by rw [hgts_len]; omega
    have d5 : (gi (hgts n w w.length) (w.length : Int) - gi (hgts n w w.length) 0).tdiv n = wndI n w := by rw [d1, d0]; rfl
    have d6 := wnd_in hc
    rw [← d1, ← d0] at d2
    rw [show wndR n w = wndI n w by unfold wndR; rw [if_pos hc]]
    refine fnS [] [4, 5] Try.func19 rfl (by decide) rfl (by decide) (by kernel_rfl) rfl (by simp [Try.ntmps19]) ?_
    cbv
    ((try simp only [IfP_iff, and_true, true_and, decide_eq_true_eq, decide_eq_false_iff_not]); (try simp only [natc, getI_gi, at2_0, at2_1]); (try dsimp only [Ty.den]); (try simp only [natc] at *); (repeat' (first | apply And.intro | intro _)))
    all_goals (repeat' (first | ((first | refine call_q e0 (by cbv) ?_ | refine call_pure e0 (by cbv) ?_); cbv; ((try simp only [IfP_iff, and_true, true_and, decide_eq_true_eq, decide_eq_false_iff_not]); (try simp only [natc, getI_gi, at2_0, at2_1]); (try dsimp only [Ty.den]); (try simp only [natc] at *); (repeat' (first | apply And.intro | intro _))))))
    all_goals (try (exact absurd (by assumption : (!true) = true) (by decide)))
    all_goals (try (simp only [IfP_iff, EqU_iff, Obl_iff, and_true, true_and, inI_iff, decide_eq_true_eq, decide_eq_false_iff_not]; (try simp only [natc, getI_gi, at2_0, at2_1]); (try dsimp only [Ty.den]); try simp only [natc] at *))
    all_goals ((repeat' (first | apply And.intro | intro _)) <;> first | omega | (exact d5) | (exact absurd (by assumption : true = false) (by decide)) | trace_state)
  | false =>
    rw [hc, show hgtR n w = [] by unfold hgtR; rw [hc]; rfl] at e0
    rw [show wndR n w = 0 by unfold wndR; rw [hc]; rfl]
    refine fnS [] [4, 5] Try.func19 rfl (by decide) rfl (by decide) (by kernel_rfl) rfl (by simp [Try.ntmps19]) ?_
    cbv
    ((try simp only [IfP_iff, and_true, true_and, decide_eq_true_eq, decide_eq_false_iff_not]); (try simp only [natc, getI_gi, at2_0, at2_1]); (try dsimp only [Ty.den]); (try simp only [natc] at *); (repeat' (first | apply And.intro | intro _)))
    all_goals (repeat' (first | ((first | refine call_q e0 (by cbv) ?_ | refine call_pure e0 (by cbv) ?_); cbv; ((try simp only [IfP_iff, and_true, true_and, decide_eq_true_eq, decide_eq_false_iff_not]); (try simp only [natc, getI_gi, at2_0, at2_1]); (try dsimp only [Ty.den]); (try simp only [natc] at *); (repeat' (first | apply And.intro | intro _))))))
    all_goals (try (exact absurd (by assumption : (!false) = false) (by decide)))
    all_goals (try (simp only [IfP_iff, EqU_iff, Obl_iff, and_true, true_and, inI_iff, decide_eq_true_eq, decide_eq_false_iff_not]; (try simp only [natc, getI_gi, at2_0, at2_1]); (try dsimp only [Ty.den]); try simp only [natc] at *))
theorem im_difference (a b : Int) (h0 : -1000 ≤ a) (h1 : a ≤ 1000) (h2 : -1000 ≤ b) (h3 : b ≤ 1000) : Spec2 Try.prog 47 [.int fun _ => a, .int fun _ => b] [] [.int fun _ => max (a - b) (b - a)] [] := by
  refine fnS [] [4] Try.func47 rfl (by decide) rfl (by decide) (by kernel_rfl) rfl (by simp [Try.ntmps47]) ?_
  cbv
  ((try simp only [IfP_iff, and_true, true_and, decide_eq_true_eq, decide_eq_false_iff_not]); (try simp only [natc, getI_gi, at2_0, at2_1]); (try dsimp only [Ty.den]); (try simp only [natc] at *); (repeat' (first | apply And.intro | intro _)))
  all_goals (try (simp only [IfP_iff, EqU_iff, Obl_iff, and_true, true_and, inI_iff, decide_eq_true_eq, decide_eq_false_iff_not]; (try simp only [natc, getI_gi, at2_0, at2_1]); (try dsimp only [Ty.den]); try simp only [natc] at *))
  all_goals ((repeat' (first | apply And.intro | intro _)) <;> first | omega | rfl | trace_state)
theorem im_slack (n : Int) (w : List Int) (hw : w.length ≤ 1048576) : Spec2 Try.prog 21 [.int fun _ => n, .sl .int fun _ => w] [] [.int fun _ => slkR n w, .bool fun _ => clB n w true] [] := by
  have e0 := im_winding n w hw
  cases hc : clB n w true with
  | true =>
    rw [hc, show wndR n w = wndI n w by unfold wndR; rw [if_pos hc]] at e0
    have d1 := wnd_in hc
    have e1 := im_difference (wndI n w) 0 (by omega) (by omega) (by omega) (by omega)
    rw [Int.sub_zero] at e1
    have d2 := slk_in hc
    have d3 := cl_get hc
    have d4 : (w.length : Int) - n * max (wndI n w) (0 - wndI n w) = slkI n w := rfl
    generalize hM : n * max (wndI n w) (0 - wndI n w) = M at d2 d4
    rw [show slkR n w = slkI n w by unfold slkR; rw [if_pos hc]]
    refine fnS [] [4, 5] Try.func21 rfl (by decide) rfl (by decide) (by kernel_rfl) rfl (by simp [Try.ntmps21]) ?_
    cbv
    ((try simp only [IfP_iff, and_true, true_and, decide_eq_true_eq, decide_eq_false_iff_not]); (try simp only [natc, getI_gi, at2_0, at2_1]); (try dsimp only [Ty.den]); (try simp only [natc] at *); (repeat' (first | apply And.intro | intro _)))
    all_goals (repeat' (first | ((first | refine call_q e0 (by cbv) ?_ | refine call_pure e0 (by cbv) ?_); cbv; ((try simp only [IfP_iff, and_true, true_and, decide_eq_true_eq, decide_eq_false_iff_not]); (try simp only [natc, getI_gi, at2_0, at2_1]); (try dsimp only [Ty.den]); (try simp only [natc] at *); (repeat' (first | apply And.intro | intro _)))) | ((first | refine call_q e1 (by cbv) ?_ | refine call_pure e1 (by cbv) ?_); cbv; ((try simp only [IfP_iff, and_true, true_and, decide_eq_true_eq, decide_eq_false_iff_not]); (try simp only [natc, getI_gi, at2_0, at2_1]); (try dsimp only [Ty.den]); (try simp only [natc] at *); (repeat' (first | apply And.intro | intro _))))))
    all_goals (try (exact absurd (by assumption : (!true) = true) (by decide)))
    all_goals (try (simp only [IfP_iff, EqU_iff, Obl_iff, and_true, true_and, inI_iff, decide_eq_true_eq, decide_eq_false_iff_not]; (try simp only [natc, getI_gi, at2_0, at2_1]); (try dsimp only [Ty.den]); try simp only [natc] at *))
    all_goals ((repeat' (first | apply And.intro | intro _)) <;> first | omega | (rw [hM]; omega) | (rw [hM]; exact d4) | trace_state)
  | false =>
    rw [hc, show wndR n w = 0 by unfold wndR; rw [hc]; rfl] at e0
    rw [show slkR n w = 0 by unfold slkR; rw [hc]; rfl]
    refine fnS [] [4, 5] Try.func21 rfl (by decide) rfl (by decide) (by kernel_rfl) rfl (by simp [Try.ntmps21]) ?_
    cbv
    ((try simp only [IfP_iff, and_true, true_and, decide_eq_true_eq, decide_eq_false_iff_not]); (try simp only [natc, getI_gi, at2_0, at2_1]); (try dsimp only [Ty.den]); (try simp only [natc] at *); (repeat' (first | apply And.intro | intro _)))
    all_goals (repeat' (first | ((first | refine call_q e0 (by cbv) ?_ | refine call_pure e0 (by cbv) ?_); cbv; ((try simp only [IfP_iff, and_true, true_and, decide_eq_true_eq, decide_eq_false_iff_not]); (try simp only [natc, getI_gi, at2_0, at2_1]); (try dsimp only [Ty.den]); (try simp only [natc] at *); (repeat' (first | apply And.intro | intro _))))))
    all_goals (try (exact absurd (by assumption : (!false) = false) (by decide)))
    all_goals (try (simp only [IfP_iff, EqU_iff, Obl_iff, and_true, true_and, inI_iff, decide_eq_true_eq, decide_eq_false_iff_not]; (try simp only [natc, getI_gi, at2_0, at2_1]); (try dsimp only [Ty.den]); try simp only [natc] at *))
/-- Whether each height differs from the one before it. -/
theorem keeps_hgt {n : Int} {w : List Int} {k : Nat} (hk : k ≤ w.length) : Go.Lib.keeps (hgts n w w.length).toArray k = true ↔ k = 0 ∨ upW n (gi w ((k - 1 : Nat) : Int)) (nxW w ((k - 1 : Nat) : Int)) ≠ 0 := by
  have at' : ∀ j : Nat, j ≤ w.length → (hgts n w w.length).toArray[j]! = hgt n w j := fun j hj => by
    rw [getElem!_pos _ _ (by simp [hgts_len]; omega)]
    simp [hgts]
  cases k with
  | zero => simp [Go.Lib.keeps]
  | succ k =>
    unfold Go.Lib.keeps
    rw [at' (k + 1) hk, show k + 1 - 1 = k from rfl, at' k (by omega)]
    simp only [hgt, ne_eq]
    constructor
    · intro h
      rcases of_decide_eq_true h with h | h
      · omega
      · right; intro h2; exact h (by omega)
    · intro h
      refine decide_eq_true ?_
      rcases h with h | h
      · omega
      · right; intro h2; exact h (by omega)
theorem upto_le {α : Type} [Inhabited α] [DecidableEq α] (d : Array α) : ∀ m, (Go.Lib.compactUpTo d m).length ≤ m
  | 0 => by simp [Go.Lib.compactUpTo]
  | m + 1 => by
    have := upto_le d m
    rw [Go.Lib.compactUpTo_succ, List.length_append]
    split <;> simp <;> omega
theorem upto_lt {α : Type} [Inhabited α] [DecidableEq α] (d : Array α) {j : Nat} (hj : Go.Lib.keeps d j = false) : ∀ {m}, j < m → (Go.Lib.compactUpTo d m).length < m
  | m + 1, h => by
    rw [Go.Lib.compactUpTo_succ, List.length_append]
    by_cases e : j = m
    · subst e
      rw [hj]
      have := upto_le d j
      simp
      omega
    · have := upto_lt d hj (m := m) (by omega)
      split <;> simp <;> omega
theorem moves_iff {n : Int} {w : List Int} (hc : clB n w true = true) (lz : Bool) : (lz || decide (((Go.Lib.compact (hgts n w w.length)).length : Int) > (w.length : Int))) = cloW n w lz := by
  obtain ⟨n3, n8, h3, l3, l24, h6⟩ := cl_get hc
  have h3' := h3
  unfold cloW at h3'
  simp only [Bool.and_eq_true, decide_eq_true_eq] at h3'
  cases lz with
  | true => rw [h3]; rfl
  | false =>
    rw [Bool.false_or, Bool.eq_iff_iff, decide_eq_true_eq]
    have hlen : (hgts n w w.length).length = w.length + 1 := hgts_len _ _ _
    constructor
    · intro h
      unfold cloW
      simp only [Bool.and_eq_true, decide_eq_true_eq]
      refine ⟨⟨h6, List.all_eq_true.2 fun k hk => ?_⟩, l3, l24⟩
      have hk' := List.mem_range.1 hk
      have h1 := (List.all_eq_true.1 h3'.1.2) k hk
      unfold okK at h1 ⊢
      simp only [Bool.not_true, Bool.and_false, Bool.not_false, Bool.and_true, decide_eq_true_eq, Bool.and_eq_true, Bool.not_eq_true', decide_eq_false_iff_not] at h1 ⊢
      refine ⟨h1, fun h2 => ?_⟩
      have hk2 : Go.Lib.keeps (hgts n w w.length).toArray (k + 1) = false := by
        rw [← Bool.not_eq_true, keeps_hgt (by omega)]
        rintro (h | h)
        · omega
        · exact h h2
      have := upto_lt (hgts n w w.length).toArray hk2 (m := (hgts n w w.length).length) (by omega)
      unfold Go.Lib.compact at h
      omega
    · intro h
      unfold cloW at h
      simp only [Bool.and_eq_true, decide_eq_true_eq] at h
      have e : Go.Lib.compact (hgts n w w.length) = hgts n w w.length := Go.Lib.compact_all _ fun j hj => by
        rw [keeps_hgt (by omega)]
        cases j with
        | zero => exact .inl rfl
        | succ j =>
          right
          have h1 := (List.all_eq_true.1 h.1.2) j (List.mem_range.2 (by omega))
          unfold okK at h1
          simp only [Bool.not_false, Bool.and_true, Bool.and_eq_true, Bool.not_eq_true', decide_eq_false_iff_not] at h1
          exact h1.2
      rw [e, hlen]
      omega
theorem go_compact0 : Spec2 Try.prog 50 [.ref 0] [some (.row 3 .int fun _ => [])] [.ref 0] [some (.row 3 .int fun _ => [])] := by
  refine lay_row _ (by kernel_rfl) [] [] rfl _ (by decide) (fun w he => ?_) (fun blk cap w hH hcap => ?_)
  · refine (Try.slices_Compact_int_empty none 0 w).mono ?_
    rintro e w' ⟨rfl, rfl⟩
    exact ⟨_, rfl, rfl, fun val' h => by simp only [ResV, VRel]; exact ⟨Nat.zero_lt_one, h.symm⟩⟩
  · refine (Try.slices_Compact_int blk 0 cap [] w hH (by simp) (by simp)).mono ?_
    rintro e w' ⟨rfl, hn⟩
    exact ⟨_, rfl, hn, fun val' h => by simp only [ResV, VRel]; exact ⟨Nat.zero_lt_one, h.symm⟩⟩
theorem im_closed_no (n : Int) (w : List Int) (lz : Bool) (hw : w.length ≤ 1048576) (hn : (decide (3 ≤ n) && decide (n ≤ 8)) = false) : Spec2 Try.prog 23 [.int fun _ => n, .sl .int fun _ => w, .bool fun _ => lz] [] [.bool fun _ => false, .bool fun _ => false] [] := by
  refine fnS [] [6, 7] Try.func23 rfl (by decide) rfl (by decide) (by kernel_rfl) rfl (by simp [Try.ntmps23]) ?_
  cbv
  ((try simp only [IfP_iff, and_true, true_and, decide_eq_true_eq, decide_eq_false_iff_not]); (try simp only [natc, getI_gi, at2_0, at2_1]); (try dsimp only [Ty.den]); (try simp only [natc] at *); (repeat' (first | apply And.intro | intro _)))
  all_goals (repeat' (first | ((first | refine call_q (im_cycSize n) (by cbv) ?_ | refine call_pure (im_cycSize n) (by cbv) ?_); cbv; ((try simp only [IfP_iff, and_true, true_and, decide_eq_true_eq, decide_eq_false_iff_not]); (try simp only [natc, getI_gi, at2_0, at2_1]); (try dsimp only [Ty.den]); (try simp only [natc] at *); (repeat' (first | apply And.intro | intro _))))))
  all_goals (try (exact absurd (by assumption) (by rw [hn]; decide)))
  all_goals (try (simp only [IfP_iff, EqU_iff, Obl_iff, and_true, true_and, inI_iff, decide_eq_true_eq, decide_eq_false_iff_not]; (try simp only [natc, getI_gi, at2_0, at2_1]); (try dsimp only [Ty.den]); try simp only [natc] at *))
theorem im_closed_ok (n : Int) (w : List Int) (lz : Bool) (hw : w.length ≤ 1048576) (hn : (decide (3 ≤ n) && decide (n ≤ 8)) = true) : Spec2 Try.prog 23 [.int fun _ => n, .sl .int fun _ => w, .bool fun _ => lz] [] [.bool fun _ => cloW n w lz, .bool fun _ => true] [] := by
  have e0 := im_heightsOf n w hw
  cases hc : clB n w true with
  | true =>
    have hm := moves_iff hc lz
    have hl : (hgts n w w.length).length ≤ 1048576 := by rw [hgts_len]; have := cl_get hc; omega
    have c1 := go_compact (hgts n w w.length) hl (by intro h; have := hgts_len n w w.length; rw [h] at this; simp at this)
    have c2 := compact_le (hgts n w w.length)
    rw [hc, show hgtR n w = hgts n w w.length by unfold hgtR; rw [if_pos hc]] at e0
    have hm1 : lz = true → true = cloW n w lz := fun h => by rw [← hm, h]; rfl
    have hm2 : lz = false → decide (((Go.Lib.compact (hgts n w w.length)).length : Int) > (w.length : Int)) = cloW n w lz := fun h => by rw [← hm, h, Bool.false_or]
    refine fnS [] [6, 7] Try.func23 rfl (by decide) rfl (by decide) (by kernel_rfl) rfl (by simp [Try.ntmps23]) ?_
    cbv
    ((try simp only [IfP_iff, and_true, true_and, decide_eq_true_eq, decide_eq_false_iff_not]); (try simp only [natc, getI_gi, at2_0, at2_1]); (try dsimp only [Ty.den]); (try simp only [natc] at *); (repeat' (first | apply And.intro | intro _)))
    all_goals (repeat' (first | ((first | refine call_q (im_cycSize n) (by cbv) ?_ | refine call_pure (im_cycSize n) (by cbv) ?_); cbv; ((try simp only [IfP_iff, and_true, true_and, decide_eq_true_eq, decide_eq_false_iff_not]); (try simp only [natc, getI_gi, at2_0, at2_1]); (try dsimp only [Ty.den]); (try simp only [natc] at *); (repeat' (first | apply And.intro | intro _)))) | ((first | refine call_q e0 (by cbv) ?_ | refine call_pure e0 (by cbv) ?_); cbv; ((try simp only [IfP_iff, and_true, true_and, decide_eq_true_eq, decide_eq_false_iff_not]); (try simp only [natc, getI_gi, at2_0, at2_1]); (try dsimp only [Ty.den]); (try simp only [natc] at *); (repeat' (first | apply And.intro | intro _)))) | (refine call_own 0 (c1) (by cbv) (by cbv; simp only [or_true, true_or, and_true]) ?_; cbv; ((try simp only [IfP_iff, and_true, true_and, decide_eq_true_eq, decide_eq_false_iff_not]); (try simp only [natc, getI_gi, at2_0, at2_1]); (try dsimp only [Ty.den]); (try simp only [natc] at *); (repeat' (first | apply And.intro | intro _))))))
    all_goals (try (exact absurd (by assumption) (by rw [hn]; decide)))
    all_goals (try (simp only [IfP_iff, EqU_iff, Obl_iff, and_true, true_and, inI_iff, decide_eq_true_eq, decide_eq_false_iff_not]; (try simp only [natc, getI_gi, at2_0, at2_1]); (try dsimp only [Ty.den]); try simp only [natc] at *))
    all_goals ((repeat' (first | apply And.intro | intro _)) <;> first | omega | (exact hm1 (by assumption)) | (exact hm2 (by assumption)) | (exact absurd (by assumption : true = false) (by decide)) | trace_state)
  | false =>
    have hcl : cloW n w lz = false := by
      rw [← Bool.not_eq_true]
      intro h
      unfold clB at hc
      rw [hn] at hc
      have h2 : cloW n w true = true := by
        unfold cloW at h ⊢
        simp only [Bool.and_eq_true] at h ⊢
        refine ⟨⟨h.1.1, List.all_eq_true.2 fun k hk => ?_⟩, h.2⟩
        have := (List.all_eq_true.1 h.1.2) k hk
        unfold okK at this ⊢
        simp only [Bool.and_eq_true] at this ⊢
        exact ⟨this.1, by simp⟩
      rw [h2] at hc
      cases hc
    rw [hc, show hgtR n w = [] by unfold hgtR; rw [hc]; rfl] at e0
    refine fnS [] [6, 7] Try.func23 rfl (by decide) rfl (by decide) (by kernel_rfl) rfl (by simp [Try.ntmps23]) ?_
    cbv
    ((try simp only [IfP_iff, and_true, true_and, decide_eq_true_eq, decide_eq_false_iff_not]); (try simp only [natc, getI_gi, at2_0, at2_1]); (try dsimp only [Ty.den]); (try simp only [natc] at *); (repeat' (first | apply And.intro | intro _)))
    all_goals (repeat' (first | ((first | refine call_q (im_cycSize n) (by cbv) ?_ | refine call_pure (im_cycSize n) (by cbv) ?_); cbv; ((try simp only [IfP_iff, and_true, true_and, decide_eq_true_eq, decide_eq_false_iff_not]); (try simp only [natc, getI_gi, at2_0, at2_1]); (try dsimp only [Ty.den]); (try simp only [natc] at *); (repeat' (first | apply And.intro | intro _)))) | ((first | refine call_q e0 (by cbv) ?_ | refine call_pure e0 (by cbv) ?_); cbv; ((try simp only [IfP_iff, and_true, true_and, decide_eq_true_eq, decide_eq_false_iff_not]); (try simp only [natc, getI_gi, at2_0, at2_1]); (try dsimp only [Ty.den]); (try simp only [natc] at *); (repeat' (first | apply And.intro | intro _)))) | (refine call_own 0 (go_compact0) (by cbv) (by cbv; simp only [or_true, true_or, and_true]) ?_; cbv; ((try simp only [IfP_iff, and_true, true_and, decide_eq_true_eq, decide_eq_false_iff_not]); (try simp only [natc, getI_gi, at2_0, at2_1]); (try dsimp only [Ty.den]); (try simp only [natc] at *); (repeat' (first | apply And.intro | intro _))))))
    all_goals (try (exact absurd (by assumption) (by rw [hn]; decide)))
    all_goals (try (simp only [IfP_iff, EqU_iff, Obl_iff, and_true, true_and, inI_iff, decide_eq_true_eq, decide_eq_false_iff_not]; (try simp only [natc, getI_gi, at2_0, at2_1]); (try dsimp only [Ty.den]); try simp only [natc] at *))
    all_goals ((repeat' (first | apply And.intro | intro _)) <;> first | omega | (exact hcl.symm) | (exact absurd (by assumption : false = true) (by decide)) | trace_state)
end Go.Proofs.Ytnofnnhclogcmaa.M
/- IsClosedWalk: both sides; TurnWalk, BackWalk. -/
namespace Go.Proofs.Ytnofnnhclogcmaa.M
open Go.RowKit Abs
set_option linter.unusedSimpArgs false
set_option linter.unusedVariables false
set_option maxRecDepth 100000
set_option maxHeartbeats 4000000
def clwR (n : Int) (w : List Int) (lz : Bool) : Bool := (decide (3 ≤ n) && decide (n ≤ 8)) && cloW n w lz
theorem im_closed (n : Int) (w : List Int) (lz : Bool) (hw : w.length ≤ 1048576) : Spec2 Try.prog 23 [.int fun _ => n, .sl .int fun _ => w, .bool fun _ => lz] [] [.bool fun _ => clwR n w lz, .bool fun _ => decide (3 ≤ n) && decide (n ≤ 8)] [] := by
  cases hn : (decide (3 ≤ n) && decide (n ≤ 8)) with
  | true =>
    rw [show clwR n w lz = cloW n w lz by unfold clwR; rw [hn]; rfl]
    exact im_closed_ok n w lz hw hn
  | false =>
    rw [show clwR n w lz = false by unfold clwR; rw [hn]; rfl]
    exact im_closed_no n w lz hw hn
theorem sp_closed (n : Int) (w : List Int) (lz : Bool) (hw : w.length ≤ 1048576) : Spec2 Try.prog 22 [.int fun _ => n, .sl .int fun _ => w, .bool fun _ => lz] [] [.bool fun _ => clwR n w lz, .bool fun _ => decide (3 ≤ n) && decide (n ≤ 8)] [] := by
  cases hn : (decide (3 ≤ n) && decide (n ≤ 8)) with
  | true =>
    rw [show clwR n w lz = cloW n w lz by unfold clwR; rw [hn]; rfl]
    have hn2 := hn
    simp only [Bool.and_eq_true, decide_eq_true_eq] at hn2
    have c := sp_l10Walk n w lz hn2.1 hn2.2 hw
    refine fnS [] [6, 7] Try.func22 rfl (by decide) rfl (by decide) (by kernel_rfl) rfl (by simp [Try.ntmps22]) ?_
    cbv
    ((try simp only [IfP_iff, and_true, true_and, decide_eq_true_eq, decide_eq_false_iff_not]); (try simp only [natc, getI_gi, at2_0, at2_1]); (try dsimp only [Ty.den]); (try simp only [natc] at *); (repeat' (first | apply And.intro | intro _)))
    all_goals (repeat' (first | ((first | refine call_q (sp_l10N n) (by cbv) ?_ | refine call_pure (sp_l10N n) (by cbv) ?_); cbv; ((try simp only [IfP_iff, and_true, true_and, decide_eq_true_eq, decide_eq_false_iff_not]); (try simp only [natc, getI_gi, at2_0, at2_1]); (try dsimp only [Ty.den]); (try simp only [natc] at *); (repeat' (first | apply And.intro | intro _)))) | ((first | refine call_q c (by cbv) ?_ | refine call_pure c (by cbv) ?_); cbv; ((try simp only [IfP_iff, and_true, true_and, decide_eq_true_eq, decide_eq_false_iff_not]); (try simp only [natc, getI_gi, at2_0, at2_1]); (try dsimp only [Ty.den]); (try simp only [natc] at *); (repeat' (first | apply And.intro | intro _))))))
    all_goals (try (exact absurd (by assumption) (by rw [hn]; decide)))
    all_goals (try (simp only [IfP_iff, EqU_iff, Obl_iff, and_true, true_and, inI_iff, decide_eq_true_eq, decide_eq_false_iff_not]; (try simp only [natc, getI_gi, at2_0, at2_1]); (try dsimp only [Ty.den]); try simp only [natc] at *))
  | false =>
    rw [show clwR n w lz = false by unfold clwR; rw [hn]; rfl]
    refine fnS [] [6, 7] Try.func22 rfl (by decide) rfl (by decide) (by kernel_rfl) rfl (by simp [Try.ntmps22]) ?_
    cbv
    ((try simp only [IfP_iff, and_true, true_and, decide_eq_true_eq, decide_eq_false_iff_not]); (try simp only [natc, getI_gi, at2_0, at2_1]); (try dsimp only [Ty.den]); (try simp only [natc] at *); (repeat' (first | apply And.intro | intro _)))
    all_goals (repeat' (first | ((first | refine call_q (sp_l10N n) (by cbv) ?_ | refine call_pure (sp_l10N n) (by cbv) ?_); cbv; ((try simp only [IfP_iff, and_true, true_and, decide_eq_true_eq, decide_eq_false_iff_not]); (try simp only [natc, getI_gi, at2_0, at2_1]); (try dsimp only [Ty.den]); (try simp only [natc] at *); (repeat' (first | apply And.intro | intro _))))))
    all_goals (try (exact absurd (by assumption) (by rw [hn]; decide)))
    all_goals (try (simp only [IfP_iff, EqU_iff, Obl_iff, and_true, true_and, inI_iff, decide_eq_true_eq, decide_eq_false_iff_not]; (try simp only [natc, getI_gi, at2_0, at2_1]); (try dsimp only [Ty.den]); try simp only [natc] at *))
theorem clw_true (n : Int) (w : List Int) : clwR n w true = clB n w true := rfl
/-- A walk turned. -/
def turB (n : Int) (w : List Int) (b : Int) : Bool := clB n w true && (decide (0 ≤ b) && decide (b < n))
def turR (n : Int) (w : List Int) (b : Int) : List Int := if turB n w b = true then w.map (fun x => (x + b).tmod n) else []
theorem tur_take {n b : Int} {w : List Int} {k : Int} (h0 : 0 ≤ k) (h1 : k < (w.length : Int)) : (w.take k.toNat).map (fun x => (x + b).tmod n) ++ [(gi w k + b).tmod n] = (w.take (k + 1).toNat).map (fun x => (x + b).tmod n) := by
  rw [take_gi h0 h1, List.map_append]
  rfl
theorem im_turnWalk (n : Int) (w : List Int) (b : Int) (hw : w.length ≤ 1048576) : Spec2 Try.prog 25 [.int fun _ => n, .sl .int fun _ => w, .int fun _ => b] [] [.ref 0, .bool fun _ => turB n w b] [some (.row 3 .int fun _ => turR n w b)] := by
  have e0 := im_closed n w true hw
  rw [clw_true] at e0
  cases hb : turB n w b with
  | true =>
    have hb2 := hb
    unfold turB at hb2
    simp only [Bool.and_eq_true, decide_eq_true_eq] at hb2
    obtain ⟨hc, b0, b1⟩ := hb2
    obtain ⟨n3, n8, h3, l3, l24, h6⟩ := cl_get hc
    rw [hc, show (decide (3 ≤ n) && decide (n ≤ 8)) = true by simp [n3, n8]] at e0
    rw [show turR n w b = w.map (fun x => (x + b).tmod n) by unfold turR; rw [if_pos hb]]
    refine fnS [0] [6, 7] Try.func25 rfl (by decide) rfl (by decide) (by kernel_rfl) rfl (by simp [Try.ntmps25]) ?_
    cbv
    ((try simp only [IfP_iff, and_true, true_and, decide_eq_true_eq, decide_eq_false_iff_not]); (try simp only [natc, getI_gi, at2_0, at2_1]); (try dsimp only [Ty.den]); (try simp only [natc] at *); (repeat' (first | apply And.intro | intro _)))
    all_goals (repeat' (first | ((first | refine call_q e0 (by cbv) ?_ | refine call_pure e0 (by cbv) ?_); cbv; ((try simp only [IfP_iff, and_true, true_and, decide_eq_true_eq, decide_eq_false_iff_not]); (try simp only [natc, getI_gi, at2_0, at2_1]); (try dsimp only [Ty.den]); (try simp only [natc] at *); (repeat' (first | apply And.intro | intro _)))) | ((first | refine call_q (im_isIndex b n) (by cbv) ?_ | refine call_pure (im_isIndex b n) (by cbv) ?_); cbv; ((try simp only [IfP_iff, and_true, true_and, decide_eq_true_eq, decide_eq_false_iff_not]); (try simp only [natc, getI_gi, at2_0, at2_1]); (try dsimp only [Ty.den]); (try simp only [natc] at *); (repeat' (first | apply And.intro | intro _))))))
    all_goals (try (exact absurd (by assumption : (!true) = true) (by decide)))
    all_goals (try (exact absurd (by assumption : (!(decide (0 ≤ b) && decide (b < n))) = true) (by simp [b0, b1])))
    refine loopP (by kernel_rfl) (fun k : Int => 0 ≤ k ∧ k ≤ w.length) (fun k => [(31, .int fun _ => k), (10, .ref 0), (28, .junk)]) (fun k => [(0, some (.row 3 .int fun _ => (w.take k.toNat).map (fun x => (x + b).tmod n)))]) (fun k => (w.length - k).toNat) (· + 1) 0 (by omega) ?_ ?_
    · cbv
      (simp only [IfP_iff, EqU_iff, Obl_iff, and_true, true_and, inI_iff, decide_eq_true_eq, decide_eq_false_iff_not]; (try simp only [natc, getI_gi, at2_0, at2_1]); (try dsimp only [Ty.den]); try simp only [natc] at *)
      (repeat' (first | apply And.intro | intro _)) <;> first | omega | rfl
    · intro k hk
      have c1 : k < (w.length : Int) → 0 ≤ gi w k ∧ gi w k < n := fun h => in_gi h6 hk.1 h
      have c2 : k < (w.length : Int) → 0 ≤ (gi w k + b).tmod n ∧ (gi w k + b).tmod n < n := fun h => tmod_in (by have := c1 h; omega) (by omega)
      have c3 : k < (w.length : Int) → (w.take k.toNat).map (fun x => (x + b).tmod n) ++ [(gi w k + b).tmod n] = (w.take (k + 1).toNat).map (fun x => (x + b).tmod n) := fun h => tur_take hk.1 h
      have c4 : ¬ k < (w.length : Int) → (w.take k.toNat).map (fun x => (x + b).tmod n) = w.map (fun x => (x + b).tmod n) := fun h => by rw [List.take_of_length_le (by omega)]
      have c5 : ((((w.take k.toNat).map (fun x => (x + b).tmod n)).length : Nat) : Int) = k := by rw [List.length_map, List.length_take]; omega
      have hk1 := hk.1
      have hk2 := hk.2
      clear hk h6
      cbv
      ((try simp only [IfP_iff, and_true, true_and, decide_eq_true_eq, decide_eq_false_iff_not]); (try simp only [natc, getI_gi, at2_0, at2_1]); (try dsimp only [Ty.den]); (try simp only [natc] at *); (repeat' (first | apply And.intro | intro _)))
      all_goals (try (simp only [IfP_iff, EqU_iff, Obl_iff, and_true, true_and, inI_iff, decide_eq_true_eq, decide_eq_false_iff_not]; (try simp only [natc, getI_gi, at2_0, at2_1]); (try dsimp only [Ty.den]); try simp only [natc] at *))
      all_goals ((repeat' (first | apply And.intro | intro _)) <;> first | omega | (exact c3 (by assumption)) | (exact c4 (by assumption)) | (have q1 := c1 (by assumption); have q2 := c2 (by assumption); omega) | (simp only [List.length_cons, List.length_nil]; omega) | trace_state)
  | false =>
    rw [show turR n w b = [] by unfold turR; rw [hb]; rfl]
    have hno : (!clB n w true) = false → (!(decide (0 ≤ b) && decide (b < n))) = false → False := fun h1 h2 => by
      unfold turB at hb
      simp only [Bool.not_eq_false'] at h1 h2
      rw [h1, h2] at hb
      cases hb
    refine fnS [0] [6, 7] Try.func25 rfl (by decide) rfl (by decide) (by kernel_rfl) rfl (by simp [Try.ntmps25]) ?_
    cbv
    ((try simp only [IfP_iff, and_true, true_and, decide_eq_true_eq, decide_eq_false_iff_not]); (try simp only [natc, getI_gi, at2_0, at2_1]); (try dsimp only [Ty.den]); (try simp only [natc] at *); (repeat' (first | apply And.intro | intro _)))
    all_goals (repeat' (first | ((first | refine call_q e0 (by cbv) ?_ | refine call_pure e0 (by cbv) ?_); cbv; ((try simp only [IfP_iff, and_true, true_and, decide_eq_true_eq, decide_eq_false_iff_not]); (try simp only [natc, getI_gi, at2_0, at2_1]); (try dsimp only [Ty.den]); (try simp only [natc] at *); (repeat' (first | apply And.intro | intro _)))) | ((first | refine call_q (im_isIndex b n) (by cbv) ?_ | refine call_pure (im_isIndex b n) (by cbv) ?_); cbv; ((try simp only [IfP_iff, and_true, true_and, decide_eq_true_eq, decide_eq_false_iff_not]); (try simp only [natc, getI_gi, at2_0, at2_1]); (try dsimp only [Ty.den]); (try simp only [natc] at *); (repeat' (first | apply And.intro | intro _))))))
    all_goals (try (exact (hno (by assumption) (by assumption)).elim))
    all_goals (try (simp only [IfP_iff, EqU_iff, Obl_iff, and_true, true_and, inI_iff, decide_eq_true_eq, decide_eq_false_iff_not]; (try simp only [natc, getI_gi, at2_0, at2_1]); (try dsimp only [Ty.den]); try simp only [natc] at *))
theorem sp_turnWalk (n : Int) (w : List Int) (b : Int) (hw : w.length ≤ 1048576) : Spec2 Try.prog 24 [.int fun _ => n, .sl .int fun _ => w, .int fun _ => b] [] [.ref 0, .bool fun _ => turB n w b] [some (.row 3 .int fun _ => turR n w b)] := by
  have e0 := sp_l10Closed n w hw
  cases hb : turB n w b with
  | true =>
    have hb2 := hb
    unfold turB at hb2
    simp only [Bool.and_eq_true, decide_eq_true_eq] at hb2
    obtain ⟨hc, b0, b1⟩ := hb2
    obtain ⟨n3, n8, h3, l3, l24, h6⟩ := cl_get hc
    rw [hc] at e0
    rw [show turR n w b = w.map (fun x => (x + b).tmod n) by unfold turR; rw [if_pos hb]]
    have e1 : (decide (0 ≤ b) && decide (b ≤ n - 1)) = true := by rw [decide_eq_true b0, decide_eq_true (show b ≤ n - 1 by omega)]; rfl
    refine fnS [0] [6, 7] Try.func24 rfl (by decide) rfl (by decide) (by kernel_rfl) rfl (by simp [Try.ntmps24]) ?_
    cbv
    ((try simp only [IfP_iff, and_true, true_and, decide_eq_true_eq, decide_eq_false_iff_not]); (try simp only [natc, getI_gi, at2_0, at2_1]); (try dsimp only [Ty.den]); (try simp only [natc] at *); (repeat' (first | apply And.intro | intro _)))
    all_goals (repeat' (first | ((first | refine call_q e0 (by cbv) ?_ | refine call_pure e0 (by cbv) ?_); cbv; ((try simp only [IfP_iff, and_true, true_and, decide_eq_true_eq, decide_eq_false_iff_not]); (try simp only [natc, getI_gi, at2_0, at2_1]); (try dsimp only [Ty.den]); (try simp only [natc] at *); (repeat' (first | apply And.intro | intro _)))) | ((first | refine call_q (sp_in _ _ _) (by cbv) ?_ | refine call_pure (sp_in _ _ _) (by cbv) ?_); cbv; ((try simp only [IfP_iff, and_true, true_and, decide_eq_true_eq, decide_eq_false_iff_not]); (try simp only [natc, getI_gi, at2_0, at2_1]); (try dsimp only [Ty.den]); (try simp only [natc] at *); (repeat' (first | apply And.intro | intro _))))))
    all_goals (try (exact absurd (by assumption : (!true) = true) (by decide)))
    all_goals (try (exact absurd (by assumption : (!(decide (0 ≤ b) && decide (b ≤ n - 1))) = true) (by rw [e1]; decide)))
    all_goals (try (show Obl _; (simp only [IfP_iff, EqU_iff, Obl_iff, and_true, true_and, inI_iff, decide_eq_true_eq, decide_eq_false_iff_not]; (try simp only [natc, getI_gi, at2_0, at2_1]); (try dsimp only [Ty.den]); try simp only [natc] at *); ((repeat' (first | apply And.intro | intro _)) <;> first | omega)))
    refine loopP (by kernel_rfl) (fun k : Int => 0 ≤ k ∧ k ≤ w.length) (fun k => [(9, .int fun _ => k), (8, .ref 0), (10, .junk)]) (fun k => [(0, some (.row 3 .int fun _ => (w.take k.toNat).map (fun x => (x + b).tmod n)))]) (fun k => (w.length - k).toNat) (· + 1) 0 (by omega) ?_ ?_
    · cbv
      (simp only [IfP_iff, EqU_iff, Obl_iff, and_true, true_and, inI_iff, decide_eq_true_eq, decide_eq_false_iff_not]; (try simp only [natc, getI_gi, at2_0, at2_1]); (try dsimp only [Ty.den]); try simp only [natc] at *)
      (repeat' (first | apply And.intro | intro _)) <;> first | omega | rfl
    · intro k hk
      have c1 : k < (w.length : Int) → 0 ≤ gi w k ∧ gi w k < n := fun h => in_gi h6 hk.1 h
      have c2 : k < (w.length : Int) → 0 ≤ (gi w k + b).tmod n ∧ (gi w k + b).tmod n < n := fun h => tmod_in (by have := c1 h; omega) (by omega)
      have c3 : k < (w.length : Int) → (w.take k.toNat).map (fun x => (x + b).tmod n) ++ [(gi w k + b).tmod n] = (w.take (k + 1).toNat).map (fun x => (x + b).tmod n) := fun h => tur_take hk.1 h
      have c4 : ¬ k < (w.length : Int) → (w.take k.toNat).map (fun x => (x + b).tmod n) = w.map (fun x => (x + b).tmod n) := fun h => by rw [List.take_of_length_le (by omega)]
      have c5 : ((((w.take k.toNat).map (fun x => (x + b).tmod n)).length : Nat) : Int) = k := by rw [List.length_map, List.length_take]; omega
      have hk1 := hk.1
      have hk2 := hk.2
      clear hk h6
      cbv
      ((try simp only [IfP_iff, and_true, true_and, decide_eq_true_eq, decide_eq_false_iff_not]); (try simp only [natc, getI_gi, at2_0, at2_1]); (try dsimp only [Ty.den]); (try simp only [natc] at *); (repeat' (first | apply And.intro | intro _)))
      all_goals (try (simp only [IfP_iff, EqU_iff, Obl_iff, and_true, true_and, inI_iff, decide_eq_true_eq, decide_eq_false_iff_not]; (try simp only [natc, getI_gi, at2_0, at2_1]); (try dsimp only [Ty.den]); try simp only [natc] at *))
      all_goals ((repeat' (first | apply And.intro | intro _)) <;> first | omega | (exact c3 (by assumption)) | (exact c4 (by assumption)) | (have q1 := c1 (by assumption); have q2 := c2 (by assumption); omega) | (simp only [List.length_cons, List.length_nil]; omega) | trace_state)
  | false =>
    rw [show turR n w b = [] by unfold turR; rw [hb]; rfl]
    have hno : (!clB n w true) = false → (!(decide (0 ≤ b) && decide (b ≤ n - 1))) = false → False := fun h1 h2 => by
      unfold turB at hb
      simp only [Bool.not_eq_false', Bool.and_eq_true, decide_eq_true_eq] at h1 h2
      rw [h1, decide_eq_true h2.1, decide_eq_true (show b < n by omega)] at hb
      cases hb
    have hin : (!clB n w true) = false → 3 ≤ n ∧ n ≤ 8 := fun h => by
      have := cl_get (by simpa using h : clB n w true = true)
      omega
    refine fnS [0] [6, 7] Try.func24 rfl (by decide) rfl (by decide) (by kernel_rfl) rfl (by simp [Try.ntmps24]) ?_
    cbv
    ((try simp only [IfP_iff, and_true, true_and, decide_eq_true_eq, decide_eq_false_iff_not]); (try simp only [natc, getI_gi, at2_0, at2_1]); (try dsimp only [Ty.den]); (try simp only [natc] at *); (repeat' (first | apply And.intro | intro _)))
    all_goals (repeat' (first | ((first | refine call_q e0 (by cbv) ?_ | refine call_pure e0 (by cbv) ?_); cbv; ((try simp only [IfP_iff, and_true, true_and, decide_eq_true_eq, decide_eq_false_iff_not]); (try simp only [natc, getI_gi, at2_0, at2_1]); (try dsimp only [Ty.den]); (try simp only [natc] at *); (repeat' (first | apply And.intro | intro _)))) | ((first | refine call_q (sp_in _ _ _) (by cbv) ?_ | refine call_pure (sp_in _ _ _) (by cbv) ?_); cbv; ((try simp only [IfP_iff, and_true, true_and, decide_eq_true_eq, decide_eq_false_iff_not]); (try simp only [natc, getI_gi, at2_0, at2_1]); (try dsimp only [Ty.den]); (try simp only [natc] at *); (repeat' (first | apply And.intro | intro _))))))
    all_goals (try (exact (hno (by assumption) (by assumption)).elim))
    all_goals (try (simp only [IfP_iff, EqU_iff, Obl_iff, and_true, true_and, inI_iff, decide_eq_true_eq, decide_eq_false_iff_not]; (try simp only [natc, getI_gi, at2_0, at2_1]); (try dsimp only [Ty.den]); try simp only [natc] at *))
    all_goals ((repeat' (first | apply And.intro | intro _)) <;> first | (have q := hin (by assumption); omega) | trace_state)
theorem turR_len (n : Int) (w : List Int) (b : Int) (hw : w.length ≤ 1048576) : (turR n w b).length ≤ 1048576 := by
  unfold turR
  split
  · rw [List.length_map]; exact hw
  · simp
end Go.Proofs.Ytnofnnhclogcmaa.M
/- BackWalk, SameClass. -/
namespace Go.Proofs.Ytnofnnhclogcmaa.M
open Go.RowKit Abs
set_option linter.unusedSimpArgs false
set_option linter.unusedVariables false
set_option maxRecDepth 100000
set_option maxHeartbeats 4000000
def bacR (n : Int) (w : List Int) : List Int := if clB n w true = true then w.reverse else []
theorem im_backWalk (n : Int) (w : List Int) (hw : w.length ≤ 1048576) : Spec2 Try.prog 27 [.int fun _ => n, .sl .int fun _ => w] [] [.ref 0, .bool fun _ => clB n w true] [some (.row 3 .int fun _ => bacR n w)] := by
  have e0 := im_closed n w true hw
  rw [clw_true] at e0
  cases hc : clB n w true with
  | true =>
    rw [hc] at e0
    rw [show bacR n w = w.reverse by unfold bacR; rw [if_pos hc]]
    refine fnS [0] [4, 5] Try.func27 rfl (by decide) rfl (by decide) (by kernel_rfl) rfl (by simp [Try.ntmps27]) ?_
    cbv
    ((try simp only [IfP_iff, and_true, true_and, decide_eq_true_eq, decide_eq_false_iff_not]); (try simp only [natc, getI_gi, at2_0, at2_1]); (try dsimp only [Ty.den]); (try simp only [natc] at *); (repeat' (first | apply And.intro | intro _)))
    all_goals (repeat' (first | ((first | refine call_q e0 (by cbv) ?_ | refine call_pure e0 (by cbv) ?_); cbv; ((try simp only [IfP_iff, and_true, true_and, decide_eq_true_eq, decide_eq_false_iff_not]); (try simp only [natc, getI_gi, at2_0, at2_1]); (try dsimp only [Ty.den]); (try simp only [natc] at *); (repeat' (first | apply And.intro | intro _)))) | ((first | refine call_q (go_clone w hw) (by cbv) ?_ | refine call_pure (go_clone w hw) (by cbv) ?_); cbv; ((try simp only [IfP_iff, and_true, true_and, decide_eq_true_eq, decide_eq_false_iff_not]); (try simp only [natc, getI_gi, at2_0, at2_1]); (try dsimp only [Ty.den]); (try simp only [natc] at *); (repeat' (first | apply And.intro | intro _)))) | (refine call_own 0 (go_reverse w hw) (by cbv) (by cbv; simp only [or_true, true_or, and_true]) ?_; cbv; ((try simp only [IfP_iff, and_true, true_and, decide_eq_true_eq, decide_eq_false_iff_not]); (try simp only [natc, getI_gi, at2_0, at2_1]); (try dsimp only [Ty.den]); (try simp only [natc] at *); (repeat' (first | apply And.intro | intro _))))))
    all_goals (try (exact absurd (by assumption : (!true) = true) (by decide)))
    all_goals (try (simp only [IfP_iff, EqU_iff, Obl_iff, and_true, true_and, inI_iff, decide_eq_true_eq, decide_eq_false_iff_not]; (try simp only [natc, getI_gi, at2_0, at2_1]); (try dsimp only [Ty.den]); try simp only [natc] at *))
  | false =>
    rw [hc] at e0
    rw [show bacR n w = [] by unfold bacR; rw [hc]; rfl]
    refine fnS [0] [4, 5] Try.func27 rfl (by decide) rfl (by decide) (by kernel_rfl) rfl (by simp [Try.ntmps27]) ?_
    cbv
    ((try simp only [IfP_iff, and_true, true_and, decide_eq_true_eq, decide_eq_false_iff_not]); (try simp only [natc, getI_gi, at2_0, at2_1]); (try dsimp only [Ty.den]); (try simp only [natc] at *); (repeat' (first | apply And.intro | intro _)))
    all_goals (repeat' (first | ((first | refine call_q e0 (by cbv) ?_ | refine call_pure e0 (by cbv) ?_); cbv; ((try simp only [IfP_iff, and_true, true_and, decide_eq_true_eq, decide_eq_false_iff_not]); (try simp only [natc, getI_gi, at2_0, at2_1]); (try dsimp only [Ty.den]); (try simp only [natc] at *); (repeat' (first | apply And.intro | intro _))))))
    all_goals (try (exact absurd (by assumption : (!false) = false) (by decide)))
    all_goals (try (simp only [IfP_iff, EqU_iff, Obl_iff, and_true, true_and, inI_iff, decide_eq_true_eq, decide_eq_false_iff_not]; (try simp only [natc, getI_gi, at2_0, at2_1]); (try dsimp only [Ty.den]); try simp only [natc] at *))
theorem sp_backWalk (n : Int) (w : List Int) (hw : w.length ≤ 1048576) : Spec2 Try.prog 26 [.int fun _ => n, .sl .int fun _ => w] [] [.ref 0, .bool fun _ => clB n w true] [some (.row 3 .int fun _ => bacR n w)] := by
  have e0 := sp_l10Closed n w hw
  cases hc : clB n w true with
  | true =>
    rw [hc] at e0
    rw [show bacR n w = w.reverse by unfold bacR; rw [if_pos hc]]
    refine fnS [0] [4, 5] Try.func26 rfl (by decide) rfl (by decide) (by kernel_rfl) rfl (by simp [Try.ntmps26]) ?_
    cbv
    ((try simp only [IfP_iff, and_true, true_and, decide_eq_true_eq, decide_eq_false_iff_not]); (try simp only [natc, getI_gi, at2_0, at2_1]); (try dsimp only [Ty.den]); (try simp only [natc] at *); (repeat' (first | apply And.intro | intro _)))
    all_goals (repeat' (first | ((first | refine call_q e0 (by cbv) ?_ | refine call_pure e0 (by cbv) ?_); cbv; ((try simp only [IfP_iff, and_true, true_and, decide_eq_true_eq, decide_eq_false_iff_not]); (try simp only [natc, getI_gi, at2_0, at2_1]); (try dsimp only [Ty.den]); (try simp only [natc] at *); (repeat' (first | apply And.intro | intro _))))))
    all_goals (try (exact absurd (by assumption : (!true) = true) (by decide)))
    all_goals (try (show Obl _; (simp only [IfP_iff, EqU_iff, Obl_iff, and_true, true_and, inI_iff, decide_eq_true_eq, decide_eq_false_iff_not]; (try simp only [natc, getI_gi, at2_0, at2_1]); (try dsimp only [Ty.den]); try simp only [natc] at *); ((repeat' (first | apply And.intro | intro _)) <;> first | omega)))
    refine loopP (by kernel_rfl) (fun k : Int => -1 ≤ k ∧ k < w.length) (fun k => [(7, .int fun _ => k), (6, .ref 0), (8, .junk)]) (fun k => [(0, some (.row 3 .int fun _ => (w.drop (k + 1).toNat).reverse))]) (fun k => (k + 1).toNat) (· - 1) ((w.length : Int) - 1) (by omega) ?_ ?_
    · cbv
      (simp only [IfP_iff, EqU_iff, Obl_iff, and_true, true_and, inI_iff, decide_eq_true_eq, decide_eq_false_iff_not]; (try simp only [natc, getI_gi, at2_0, at2_1]); (try dsimp only [Ty.den]); try simp only [natc] at *)
      (repeat' (first | apply And.intro | intro _)) <;> first | omega | (rw [show ((w.length : Int) - 1 + 1).toNat = w.length by omega, List.drop_length]; rfl) | trace_state
    · intro k hk
      have c3 : k ≥ 0 → (w.drop (k + 1).toNat).reverse ++ [gi w k] = (w.drop (k - 1 + 1).toNat).reverse := fun h => by
        rw [show k - 1 + 1 = k by omega, List.drop_eq_getElem_cons (i := k.toNat) (by omega), List.reverse_cons, show (k + 1).toNat = k.toNat + 1 by omega]
        congr 2
        unfold gi
        rw [List.getD_eq_getElem?_getD, List.getElem?_eq_getElem (by omega)]
        rfl
      have c4 : ¬ k ≥ 0 → (w.drop (k + 1).toNat).reverse = w.reverse := fun h => by rw [show (k + 1).toNat = 0 by omega]; rfl
      have c5 : ((((w.drop (k + 1).toNat).reverse).length : Nat) : Int) ≤ w.length := by rw [List.length_reverse, List.length_drop]; omega
      have hk1 := hk.1
      have hk2 := hk.2
      clear hk
      cbv
      ((try simp only [IfP_iff, and_true, true_and, decide_eq_true_eq, decide_eq_false_iff_not]); (try simp only [natc, getI_gi, at2_0, at2_1]); (try dsimp only [Ty.den]); (try simp only [natc] at *); (repeat' (first | apply And.intro | intro _)))
      all_goals (try (simp only [IfP_iff, EqU_iff, Obl_iff, and_true, true_and, inI_iff, decide_eq_true_eq, decide_eq_false_iff_not]; (try simp only [natc, getI_gi, at2_0, at2_1]); (try dsimp only [Ty.den]); try simp only [natc] at *))
      all_goals ((repeat' (first | apply And.intro | intro _)) <;> first | omega | (exact c3 (by assumption)) | (exact c4 (by assumption)) | (simp only [List.length_cons, List.length_nil]; omega) | trace_state)
  | false =>
    rw [hc] at e0
    rw [show bacR n w = [] by unfold bacR; rw [hc]; rfl]
    refine fnS [0] [4, 5] Try.func26 rfl (by decide) rfl (by decide) (by kernel_rfl) rfl (by simp [Try.ntmps26]) ?_
    cbv
    ((try simp only [IfP_iff, and_true, true_and, decide_eq_true_eq, decide_eq_false_iff_not]); (try simp only [natc, getI_gi, at2_0, at2_1]); (try dsimp only [Ty.den]); (try simp only [natc] at *); (repeat' (first | apply And.intro | intro _)))
    all_goals (repeat' (first | ((first | refine call_q e0 (by cbv) ?_ | refine call_pure e0 (by cbv) ?_); cbv; ((try simp only [IfP_iff, and_true, true_and, decide_eq_true_eq, decide_eq_false_iff_not]); (try simp only [natc, getI_gi, at2_0, at2_1]); (try dsimp only [Ty.den]); (try simp only [natc] at *); (repeat' (first | apply And.intro | intro _))))))
    all_goals (try (exact absurd (by assumption : (!false) = false) (by decide)))
    all_goals (try (simp only [IfP_iff, EqU_iff, Obl_iff, and_true, true_and, inI_iff, decide_eq_true_eq, decide_eq_false_iff_not]; (try simp only [natc, getI_gi, at2_0, at2_1]); (try dsimp only [Ty.den]); try simp only [natc] at *))
theorem bacR_len (n : Int) (w : List Int) (hw : w.length ≤ 1048576) : (bacR n w).length ≤ 1048576 := by
  unfold bacR
  split
  · rw [List.length_reverse]; exact hw
  · simp
/-- Two walks of a class. -/
def turnB (n : Int) (a b : List Int) : Bool := (decide (wndI n a = wndI n b) && decide (slkI n a > 0)) && (decide (n.tmod 2 = 1) || decide ((gi a 0).tmod 2 = (gi b 0).tmod 2))
def clsB (n : Int) (a b : List Int) : Bool := (clwR n a false && clwR n b false) && (!decide (n = 4) && decide ((a.length : Int) = b.length))
def clsR (n : Int) (a b : List Int) : Bool := clsB n a b && (decide (a = b) || turnB n a b)
theorem clw_cl {n : Int} {w : List Int} (h : clwR n w false = true) : clB n w true = true := by
  unfold clwR at h
  simp only [Bool.and_eq_true] at h
  unfold clB
  simp only [Bool.and_eq_true]
  refine ⟨h.1, ?_⟩
  have h2 := h.2
  unfold cloW at h2 ⊢
  simp only [Bool.and_eq_true] at h2 ⊢
  refine ⟨⟨h2.1.1, List.all_eq_true.2 fun k hk => ?_⟩, h2.2⟩
  have := (List.all_eq_true.1 h2.1.2) k hk
  unfold okK at this ⊢
  simp only [Bool.and_eq_true] at this ⊢
  exact ⟨this.1, by simp⟩
theorem par_in {x : Int} (h0 : 0 ≤ x) : 0 ≤ x.tmod 2 ∧ x.tmod 2 ≤ 1 := by rw [Int.tmod_eq_emod_of_nonneg h0]; omega
theorem im_oneTurning (n : Int) (a b : List Int) (ha : a.length ≤ 1048576) (hb : b.length ≤ 1048576) (ca : clB n a true = true) (cb : clB n b true = true) : Spec2 Try.prog 56 [.int fun _ => n, .sl .int fun _ => a, .sl .int fun _ => b] [] [.bool fun _ => turnB n a b] [] := by
  have e1 := im_winding n a ha
  have e2 := im_winding n b hb
  have e3 := im_slack n a ha
  rw [ca, show wndR n a = wndI n a by unfold wndR; rw [if_pos ca]] at e1
  rw [cb, show wndR n b = wndI n b by unfold wndR; rw [if_pos cb]] at e2
  rw [ca, show slkR n a = slkI n a by unfold slkR; rw [if_pos ca]] at e3
  have ga := cl_get ca
  have gb := cl_get cb
  have xa := in_gi ga.2.2.2.2.2 (k := 0) (by omega) (by omega)
  have xb := in_gi gb.2.2.2.2.2 (k := 0) (by omega) (by omega)
  have pa := par_in xa.1
  have pb := par_in xb.1
  have pn := par_in (x := n) (by omega)
  have t : turnB n a b = ((decide (wndI n a = wndI n b) && decide (slkI n a > 0)) && (decide (n.tmod 2 = 1) || decide ((gi a 0).tmod 2 = (gi b 0).tmod 2))) := rfl
  generalize turnB n a b = r at t ⊢
  refine fnS [] [6] Try.func56 rfl (by decide) rfl (by decide) (by kernel_rfl) rfl (by simp [Try.ntmps56]) ?_
  cbv
  ((try simp only [IfP_iff, and_true, true_and, decide_eq_true_eq, decide_eq_false_iff_not]); (try simp only [natc, getI_gi, at2_0, at2_1]); (try dsimp only [Ty.den]); (try simp only [natc] at *); (repeat' (first | apply And.intro | intro _)))
  all_goals (repeat' (first | ((first | refine call_q e1 (by cbv) ?_ | refine call_pure e1 (by cbv) ?_); cbv; ((try simp only [IfP_iff, and_true, true_and, decide_eq_true_eq, decide_eq_false_iff_not]); (try simp only [natc, getI_gi, at2_0, at2_1]); (try dsimp only [Ty.den]); (try simp only [natc] at *); (repeat' (first | apply And.intro | intro _)))) | ((first | refine call_q e2 (by cbv) ?_ | refine call_pure e2 (by cbv) ?_); cbv; ((try simp only [IfP_iff, and_true, true_and, decide_eq_true_eq, decide_eq_false_iff_not]); (try simp only [natc, getI_gi, at2_0, at2_1]); (try dsimp only [Ty.den]); (try simp only [natc] at *); (repeat' (first | apply And.intro | intro _)))) | ((first | refine call_q e3 (by cbv) ?_ | refine call_pure e3 (by cbv) ?_); cbv; ((try simp only [IfP_iff, and_true, true_and, decide_eq_true_eq, decide_eq_false_iff_not]); (try simp only [natc, getI_gi, at2_0, at2_1]); (try dsimp only [Ty.den]); (try simp only [natc] at *); (repeat' (first | apply And.intro | intro _))))))
  all_goals (try (simp only [IfP_iff, EqU_iff, Obl_iff, and_true, true_and, inI_iff, decide_eq_true_eq, decide_eq_false_iff_not]; (try simp only [natc, getI_gi, at2_0, at2_1]); (try dsimp only [Ty.den]); try simp only [natc] at *))
  all_goals ((repeat' (first | apply And.intro | intro _)) <;> first | omega | (rw [t]; simp only [*, decide_true, decide_false, Bool.true_and, Bool.false_or, Bool.or_true, gt_iff_lt]; done) | (rw [t, decide_eq_true ‹wndI n a = wndI n b›, decide_eq_true ‹0 < slkI n a›, decide_eq_false ‹¬ n.tmod 2 = 1›]; rfl) | (simp_all; done) | trace_state)
end Go.Proofs.Ytnofnnhclogcmaa.M
/- SameClass: both sides. -/
namespace Go.Proofs.Ytnofnnhclogcmaa.M
open Go.RowKit Abs
set_option linter.unusedSimpArgs false
set_option linter.unusedVariables false
set_option maxRecDepth 100000
set_option maxHeartbeats 4000000
theorem sp_same (a b : List Int) (ha : a.length ≤ 1048576) (hb : b.length ≤ 1048576) : Spec2 Try.prog 54 [.sl .int fun _ => a, .sl .int fun _ => b] [] [.bool fun _ => decide (a = b)] [] := by
  by_cases hl : a.length = b.length
  case neg =>
    have e : false = decide (a = b) := by rw [decide_eq_false]; intro h; exact hl (by rw [h])
    have hl' : ¬ (a.length : Int) = (b.length : Int) := by omega
    refine fnS [] [4] Try.func54 rfl (by decide) rfl (by decide) (by kernel_rfl) rfl (by simp [Try.ntmps54]) ?_
    cbv
    ((try simp only [IfP_iff, and_true, true_and, decide_eq_true_eq, decide_eq_false_iff_not]); (try simp only [natc, getI_gi, at2_0, at2_1]); (try dsimp only [Ty.den]); (try simp only [natc] at *); (repeat' (first | apply And.intro | intro _)))
    all_goals (try (exact absurd (by assumption) (by omega)))
    all_goals (try (simp only [IfP_iff, EqU_iff, Obl_iff, and_true, true_and, inI_iff, decide_eq_true_eq, decide_eq_false_iff_not]; (try simp only [natc, getI_gi, at2_0, at2_1]); (try dsimp only [Ty.den]); try simp only [natc] at *))
    all_goals ((repeat' (first | apply And.intro | intro _)) <;> first | exact e | omega | grind | trace_state)
  refine fnS [] [4] Try.func54 rfl (by decide) rfl (by decide) (by kernel_rfl) rfl (by simp [Try.ntmps54]) ?_
  cbv
  ((try simp only [IfP_iff, and_true, true_and, decide_eq_true_eq, decide_eq_false_iff_not]); (try simp only [natc, getI_gi, at2_0, at2_1]); (try dsimp only [Ty.den]); (try simp only [natc] at *); (repeat' (first | apply And.intro | intro _)))
  all_goals (try (exfalso; simp_all; done))
  refine loopP (by kernel_rfl) (fun k : Int => 0 ≤ k ∧ k ≤ a.length ∧ a.take k.toNat = b.take k.toNat) (fun k => [(5, .int fun _ => k)]) (fun _ => []) (fun k => (a.length - k).toNat) (· + 1) 0 (by refine ⟨by omega, by omega, rfl⟩) ?_ ?_
  · cbv
    (simp only [IfP_iff, EqU_iff, Obl_iff, and_true, true_and, inI_iff, decide_eq_true_eq, decide_eq_false_iff_not]; (try simp only [natc, getI_gi, at2_0, at2_1]); (try dsimp only [Ty.den]); try simp only [natc] at *)
  · intro k hk
    have e1 : ¬ k < (a.length : Int) → true = decide (a = b) := fun h => by
      have := hk.2.2
      rw [List.take_of_length_le (by omega), List.take_of_length_le (by omega)] at this
      rw [this]; simp
    have e2 : k < (a.length : Int) → ¬ gi a k = gi b k → false = decide (a = b) := fun h h2 => by
      rw [decide_eq_false]; intro hab; exact h2 (by rw [hab])
    have e3 : k < (a.length : Int) → gi a k = gi b k → a.take (k + 1).toNat = b.take (k + 1).toNat := fun h h2 => by
      rw [take_gi hk.1 h, take_gi hk.1 (by omega), hk.2.2, h2]
    have e4 : k < (a.length : Int) → (!decide (gi a k = gi b k)) = true → false = decide (a = b) := fun h h2 => e2 h (by simpa using h2)
    have e5 : k < (a.length : Int) → (!decide (gi a k = gi b k)) = false → a.take (k + 1).toNat = b.take (k + 1).toNat := fun h h2 => e3 h (by simpa using h2)
    have hk1 := hk.1
    have hk2 := hk.2.1
    clear hk
    cbv
    ((try simp only [IfP_iff, and_true, true_and, decide_eq_true_eq, decide_eq_false_iff_not]); (try simp only [natc, getI_gi, at2_0, at2_1]); (try dsimp only [Ty.den]); (try simp only [natc] at *); (repeat' (first | apply And.intro | intro _)))
    all_goals (try (simp only [IfP_iff, EqU_iff, Obl_iff, and_true, true_and, inI_iff, decide_eq_true_eq, decide_eq_false_iff_not]; (try simp only [natc, getI_gi, at2_0, at2_1]); (try dsimp only [Ty.den]); try simp only [natc] at *))
    all_goals ((repeat' (first | apply And.intro | intro _)) <;> first | omega | (exact e1 (by assumption)) | (exact e2 (by assumption) (by assumption)) | (exact e3 (by assumption) (by assumption)) | (exact e4 (by assumption) (by assumption)) | (exact e5 (by assumption) (by assumption)) | trace_state)
theorem cls_get {n : Int} {a b : List Int} (h : clsB n a b = true) : clwR n a false = true ∧ clwR n b false = true ∧ ¬ n = 4 ∧ (a.length : Int) = b.length := by
  unfold clsB at h
  simpa [Bool.and_eq_true, and_assoc] using h
theorem cls_put {n : Int} {a b : List Int} (h1 : clwR n a false = true) (h2 : clwR n b false = true) (h3 : ¬ n = 4) (h4 : (a.length : Int) = b.length) : clsB n a b = true := by
  unfold clsB
  rw [h1, h2, decide_eq_false h3, decide_eq_true h4]
  rfl
theorem im_sameClass (n : Int) (a b : List Int) (ha : a.length ≤ 1048576) (hb : b.length ≤ 1048576) : Spec2 Try.prog 29 [.int fun _ => n, .sl .int fun _ => a, .sl .int fun _ => b] [] [.bool fun _ => clsR n a b, .bool fun _ => clsB n a b] [] := by
  have e1 := im_closed n a false ha
  have e2 := im_closed n b false hb
  cases hc : clsB n a b with
  | true =>
    obtain ⟨h1, h2, h3, h4⟩ := cls_get hc
    have e4 := im_oneTurning n a b ha hb (clw_cl h1) (clw_cl h2)
    have t : clsR n a b = (decide (a = b) || turnB n a b) := by unfold clsR; rw [hc]; rfl
    have t1 : decide (a = b) = true → true = clsR n a b := fun h => by rw [t, h]; rfl
    have t2 : decide (a = b) = false → turnB n a b = clsR n a b := fun h => by rw [t, h]; rfl
    have t3 : a = b → true = clsR n a b := fun h => t1 (decide_eq_true h)
    have t4 : ¬ a = b → turnB n a b = clsR n a b := fun h => t2 (decide_eq_false h)
    generalize clsR n a b = r at *
    generalize turnB n a b = q at *
    clear t
    rw [h1] at e1
    rw [h2] at e2
    refine fnS [] [6, 7] Try.func29 rfl (by decide) rfl (by decide) (by kernel_rfl) rfl (by simp [Try.ntmps29]) ?_
    cbv
    ((try simp only [IfP_iff, and_true, true_and, decide_eq_true_eq, decide_eq_false_iff_not]); (try simp only [natc, getI_gi, at2_0, at2_1]); (try dsimp only [Ty.den]); (try simp only [natc] at *); (repeat' (first | apply And.intro | intro _)))
    all_goals (repeat' (first | ((first | refine call_q e1 (by cbv) ?_ | refine call_pure e1 (by cbv) ?_); cbv; ((try simp only [IfP_iff, and_true, true_and, decide_eq_true_eq, decide_eq_false_iff_not]); (try simp only [natc, getI_gi, at2_0, at2_1]); (try dsimp only [Ty.den]); (try simp only [natc] at *); (repeat' (first | apply And.intro | intro _)))) | ((first | refine call_q e2 (by cbv) ?_ | refine call_pure e2 (by cbv) ?_); cbv; ((try simp only [IfP_iff, and_true, true_and, decide_eq_true_eq, decide_eq_false_iff_not]); (try simp only [natc, getI_gi, at2_0, at2_1]); (try dsimp only [Ty.den]); (try simp only [natc] at *); (repeat' (first | apply And.intro | intro _)))) | ((first | refine call_q (go_equal a b ha hb) (by cbv) ?_ | refine call_pure (go_equal a b ha hb) (by cbv) ?_); cbv; ((try simp only [IfP_iff, and_true, true_and, decide_eq_true_eq, decide_eq_false_iff_not]); (try simp only [natc, getI_gi, at2_0, at2_1]); (try dsimp only [Ty.den]); (try simp only [natc] at *); (repeat' (first | apply And.intro | intro _)))) | ((first | refine call_q e4 (by cbv) ?_ | refine call_pure e4 (by cbv) ?_); cbv; ((try simp only [IfP_iff, and_true, true_and, decide_eq_true_eq, decide_eq_false_iff_not]); (try simp only [natc, getI_gi, at2_0, at2_1]); (try dsimp only [Ty.den]); (try simp only [natc] at *); (repeat' (first | apply And.intro | intro _))))))
    all_goals (try (exact absurd (by assumption : (!true) = true) (by decide)))
    all_goals (try (simp only [IfP_iff, EqU_iff, Obl_iff, and_true, true_and, inI_iff, decide_eq_true_eq, decide_eq_false_iff_not]; (try simp only [natc, getI_gi, at2_0, at2_1]); (try dsimp only [Ty.den]); try simp only [natc] at *))
    all_goals ((repeat' (first | apply And.intro | intro _)) <;> first | omega | exact t1 (by assumption) | exact t2 (by assumption) | exact t3 (by assumption) | exact t4 (by assumption) | (simp_all; done) | trace_state)
  | false =>
    have hr : clsR n a b = false := by unfold clsR; rw [hc]; rfl
    rw [hr]
    have hno : (!clwR n a false) = false → (!clwR n b false) = false → ¬ n = 4 → ¬ (a.length : Int) = b.length := fun q1 q2 q3 q4 => by
      rw [cls_put (by simpa using q1) (by simpa using q2) q3 q4] at hc
      exact Bool.noConfusion hc
    generalize clwR n a false = r1 at *
    generalize clwR n b false = r2 at *
    refine fnS [] [6, 7] Try.func29 rfl (by decide) rfl (by decide) (by kernel_rfl) rfl (by simp [Try.ntmps29]) ?_
    cbv
    ((try simp only [IfP_iff, and_true, true_and, decide_eq_true_eq, decide_eq_false_iff_not]); (try simp only [natc, getI_gi, at2_0, at2_1]); (try dsimp only [Ty.den]); (try simp only [natc] at *); (repeat' (first | apply And.intro | intro _)))
    all_goals (repeat' (first | ((first | refine call_q e1 (by cbv) ?_ | refine call_pure e1 (by cbv) ?_); cbv; ((try simp only [IfP_iff, and_true, true_and, decide_eq_true_eq, decide_eq_false_iff_not]); (try simp only [natc, getI_gi, at2_0, at2_1]); (try dsimp only [Ty.den]); (try simp only [natc] at *); (repeat' (first | apply And.intro | intro _)))) | ((first | refine call_q e2 (by cbv) ?_ | refine call_pure e2 (by cbv) ?_); cbv; ((try simp only [IfP_iff, and_true, true_and, decide_eq_true_eq, decide_eq_false_iff_not]); (try simp only [natc, getI_gi, at2_0, at2_1]); (try dsimp only [Ty.den]); (try simp only [natc] at *); (repeat' (first | apply And.intro | intro _))))))
    all_goals (try (exact absurd (by assumption) (hno (by assumption) (by assumption) (by assumption))))
    all_goals (try (exfalso; simp_all; done))
    all_goals (try (simp only [IfP_iff, EqU_iff, Obl_iff, and_true, true_and, inI_iff, decide_eq_true_eq, decide_eq_false_iff_not]; (try simp only [natc, getI_gi, at2_0, at2_1]); (try dsimp only [Ty.den]); try simp only [natc] at *))
    all_goals ((repeat' (first | apply And.intro | intro _)) <;> first | omega | (simp_all; done) | trace_state)
theorem sp_sameClass (n : Int) (a b : List Int) (ha : a.length ≤ 1048576) (hb : b.length ≤ 1048576) : Spec2 Try.prog 28 [.int fun _ => n, .sl .int fun _ => a, .sl .int fun _ => b] [] [.bool fun _ => clsR n a b, .bool fun _ => clsB n a b] [] := by
  cases hc : clsB n a b with
  | true =>
    obtain ⟨h1, h2, h3, h4⟩ := cls_get hc
    have ca := clw_cl h1
    have cb := clw_cl h2
    have ga := cl_get ca
    have gb := cl_get cb
    have e1 := sp_l10Walk n a false ga.1 ga.2.1 ha
    have e2 := sp_l10Walk n b false ga.1 ga.2.1 hb
    rw [show cloW n a false = true by have := h1; unfold clwR at this; simp only [Bool.and_eq_true] at this; exact this.2] at e1
    rw [show cloW n b false = true by have := h2; unfold clwR at this; simp only [Bool.and_eq_true] at this; exact this.2] at e2
    have e3 := sp_l10Winding n a ca
    have e4 := sp_l10Winding n b cb
    have e5 := sp_l10Slack n a ca
    have xa := in_gi ga.2.2.2.2.2 (k := 0) (by omega) (by omega)
    have xb := in_gi gb.2.2.2.2.2 (k := 0) (by omega) (by omega)
    have n3 := ga.1
    have n8 := ga.2.1
    have la := ga.2.2.2.1
    have lb := gb.2.2.2.1
    have pn := par_in (x := n) (by omega)
    have tp : ((gi a 0 - gi b 0).tmod 2 = 0) ↔ ((gi a 0).tmod 2 = (gi b 0).tmod 2) := by
      rw [Int.tmod_eq_emod_of_nonneg xa.1, Int.tmod_eq_emod_of_nonneg xb.1, ← Int.dvd_iff_tmod_eq_zero]
      omega
    have tn : (n.tmod 2 = 0) ↔ ¬ n.tmod 2 = 1 := by omega
    have t : clsR n a b = (decide (a = b) || ((decide (wndI n a = wndI n b) && decide (slkI n a > 0)) && (!decide (n.tmod 2 = 0) || decide ((gi a 0 - gi b 0).tmod 2 = 0)))) := by
      unfold clsR turnB
      rw [hc, decide_eq_decide.2 tp, decide_eq_decide.2 tn, decide_not, Bool.not_not, Bool.true_and]
    have z0 : (3 ≤ n) = True := eq_true n3
    have t1 : a = b → true = clsR n a b := fun h => by rw [t, decide_eq_true h]; rfl
    have hl' : (a.length : Int) = (b.length : Int) := h4
    generalize clsR n a b = r at *
    refine fnS [] [6, 7] Try.func28 rfl (by decide) rfl (by decide) (by kernel_rfl) rfl (by simp [Try.ntmps28]) ?_
    cbv
    ((try simp only [IfP_iff, and_true, true_and, decide_eq_true_eq, decide_eq_false_iff_not]); (try simp only [natc, getI_gi, at2_0, at2_1]); (try dsimp only [Ty.den]); (try simp only [natc] at *); (repeat' (first | apply And.intro | intro _)))
    all_goals (repeat' (first | ((first | refine call_q (sp_l10N n) (by cbv) ?_ | refine call_pure (sp_l10N n) (by cbv) ?_); cbv; ((try simp only [IfP_iff, and_true, true_and, decide_eq_true_eq, decide_eq_false_iff_not]); (try simp only [natc, getI_gi, at2_0, at2_1]); (try dsimp only [Ty.den]); (try simp only [natc] at *); (repeat' (first | apply And.intro | intro _)))) | ((first | refine call_q e1 (by cbv) ?_ | refine call_pure e1 (by cbv) ?_); cbv; ((try simp only [IfP_iff, and_true, true_and, decide_eq_true_eq, decide_eq_false_iff_not]); (try simp only [natc, getI_gi, at2_0, at2_1]); (try dsimp only [Ty.den]); (try simp only [natc] at *); (repeat' (first | apply And.intro | intro _)))) | ((first | refine call_q e2 (by cbv) ?_ | refine call_pure e2 (by cbv) ?_); cbv; ((try simp only [IfP_iff, and_true, true_and, decide_eq_true_eq, decide_eq_false_iff_not]); (try simp only [natc, getI_gi, at2_0, at2_1]); (try dsimp only [Ty.den]); (try simp only [natc] at *); (repeat' (first | apply And.intro | intro _)))) | ((first | refine call_q (sp_same a b ha hb) (by cbv) ?_ | refine call_pure (sp_same a b ha hb) (by cbv) ?_); cbv; ((try simp only [IfP_iff, and_true, true_and, decide_eq_true_eq, decide_eq_false_iff_not]); (try simp only [natc, getI_gi, at2_0, at2_1]); (try dsimp only [Ty.den]); (try simp only [natc] at *); (repeat' (first | apply And.intro | intro _)))) | ((first | refine call_q e3 (by cbv) ?_ | refine call_pure e3 (by cbv) ?_); cbv; ((try simp only [IfP_iff, and_true, true_and, decide_eq_true_eq, decide_eq_false_iff_not]); (try simp only [natc, getI_gi, at2_0, at2_1]); (try dsimp only [Ty.den]); (try simp only [natc] at *); (repeat' (first | apply And.intro | intro _)))) | ((first | refine call_q e4 (by cbv) ?_ | refine call_pure e4 (by cbv) ?_); cbv; ((try simp only [IfP_iff, and_true, true_and, decide_eq_true_eq, decide_eq_false_iff_not]); (try simp only [natc, getI_gi, at2_0, at2_1]); (try dsimp only [Ty.den]); (try simp only [natc] at *); (repeat' (first | apply And.intro | intro _)))) | ((first | refine call_q e5 (by cbv) ?_ | refine call_pure e5 (by cbv) ?_); cbv; ((try simp only [IfP_iff, and_true, true_and, decide_eq_true_eq, decide_eq_false_iff_not]); (try simp only [natc, getI_gi, at2_0, at2_1]); (try dsimp only [Ty.den]); (try simp only [natc] at *); (repeat' (first | apply And.intro | intro _))))))
    all_goals (try (exact absurd (by assumption : (!true) = true) (by decide)))
    all_goals (try (simp only [IfP_iff, EqU_iff, Obl_iff, and_true, true_and, inI_iff, decide_eq_true_eq, decide_eq_false_iff_not]; (try simp only [natc, getI_gi, at2_0, at2_1]); (try dsimp only [Ty.den]); try simp only [natc] at *))
    all_goals ((repeat' (first | apply And.intro | intro _)) <;> first | omega | exact t1 (by assumption) | (rw [t]; simp only [*, decide_true, decide_false, Bool.true_and, Bool.false_and, Bool.false_or, Bool.or_true, Bool.or_false, Bool.and_false, gt_iff_lt]; done) | (simp_all; done) | trace_state)
  | false =>
    have hr : clsR n a b = false := by unfold clsR; rw [hc]; rfl
    rw [hr]
    cases hn : (decide (3 ≤ n) && decide (n ≤ 8)) with
    | true =>
      have hn2 := hn
      simp only [Bool.and_eq_true, decide_eq_true_eq] at hn2
      have e1 := sp_l10Walk n a false hn2.1 hn2.2 ha
      have e2 := sp_l10Walk n b false hn2.1 hn2.2 hb
      have hno : (!cloW n a false) = false → (!cloW n b false) = false → ¬ n = 4 → ¬ (a.length : Int) = b.length := fun q1 q2 q3 q4 => by
        rw [cls_put (by unfold clwR; rw [hn]; simpa using q1) (by unfold clwR; rw [hn]; simpa using q2) q3 q4] at hc
        exact Bool.noConfusion hc
      have e0 := sp_l10N n
      rw [hn] at e0
      generalize cloW n a false = r1 at *
      generalize cloW n b false = r2 at *
      refine fnS [] [6, 7] Try.func28 rfl (by decide) rfl (by decide) (by kernel_rfl) rfl (by simp [Try.ntmps28]) ?_
      cbv
      ((try simp only [IfP_iff, and_true, true_and, decide_eq_true_eq, decide_eq_false_iff_not]); (try simp only [natc, getI_gi, at2_0, at2_1]); (try dsimp only [Ty.den]); (try simp only [natc] at *); (repeat' (first | apply And.intro | intro _)))
      all_goals (repeat' (first | ((first | refine call_q e0 (by cbv) ?_ | refine call_pure e0 (by cbv) ?_); cbv; ((try simp only [IfP_iff, and_true, true_and, decide_eq_true_eq, decide_eq_false_iff_not]); (try simp only [natc, getI_gi, at2_0, at2_1]); (try dsimp only [Ty.den]); (try simp only [natc] at *); (repeat' (first | apply And.intro | intro _)))) | ((first | refine call_q e1 (by cbv) ?_ | refine call_pure e1 (by cbv) ?_); cbv; ((try simp only [IfP_iff, and_true, true_and, decide_eq_true_eq, decide_eq_false_iff_not]); (try simp only [natc, getI_gi, at2_0, at2_1]); (try dsimp only [Ty.den]); (try simp only [natc] at *); (repeat' (first | apply And.intro | intro _)))) | ((first | refine call_q e2 (by cbv) ?_ | refine call_pure e2 (by cbv) ?_); cbv; ((try simp only [IfP_iff, and_true, true_and, decide_eq_true_eq, decide_eq_false_iff_not]); (try simp only [natc, getI_gi, at2_0, at2_1]); (try dsimp only [Ty.den]); (try simp only [natc] at *); (repeat' (first | apply And.intro | intro _))))))
      all_goals (try (exact absurd (by assumption) (hno (by assumption) (by assumption) (by assumption))))
      all_goals (try (exfalso; simp_all; done))
      all_goals (try (simp only [IfP_iff, EqU_iff, Obl_iff, and_true, true_and, inI_iff, decide_eq_true_eq, decide_eq_false_iff_not]; (try simp only [natc, getI_gi, at2_0, at2_1]); (try dsimp only [Ty.den]); try simp only [natc] at *))
      all_goals ((repeat' (first | apply And.intro | intro _)) <;> first | omega | (simp_all; done) | trace_state)
    | false =>
      have e0 := sp_l10N n
      rw [hn] at e0
      refine fnS [] [6, 7] Try.func28 rfl (by decide) rfl (by decide) (by kernel_rfl) rfl (by simp [Try.ntmps28]) ?_
      cbv
      ((try simp only [IfP_iff, and_true, true_and, decide_eq_true_eq, decide_eq_false_iff_not]); (try simp only [natc, getI_gi, at2_0, at2_1]); (try dsimp only [Ty.den]); (try simp only [natc] at *); (repeat' (first | apply And.intro | intro _)))
      all_goals (repeat' (first | ((first | refine call_q e0 (by cbv) ?_ | refine call_pure e0 (by cbv) ?_); cbv; ((try simp only [IfP_iff, and_true, true_and, decide_eq_true_eq, decide_eq_false_iff_not]); (try simp only [natc, getI_gi, at2_0, at2_1]); (try dsimp only [Ty.den]); (try simp only [natc] at *); (repeat' (first | apply And.intro | intro _))))))
      all_goals (try (exact absurd (by assumption : (!false) = false) (by decide)))
      all_goals (try (simp only [IfP_iff, EqU_iff, Obl_iff, and_true, true_and, inI_iff, decide_eq_true_eq, decide_eq_false_iff_not]; (try simp only [natc, getI_gi, at2_0, at2_1]); (try dsimp only [Ty.den]); try simp only [natc] at *))
      all_goals ((repeat' (first | apply And.intro | intro _)) <;> first | omega | (simp_all; done) | trace_state)
end Go.Proofs.Ytnofnnhclogcmaa.M

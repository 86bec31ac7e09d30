/- TurnTriangulation: both sides. -/
import Derived.Test.YtbpheblbbdiapaaEgQ
import Derived.Test.YtbpheblbbdiapaaOuQ
import Derived.Test.YtbpheblbbdiapaaQg
namespace Go.Proofs.Ytbpheblbbdiapaa.M
open Go.RowKit Abs
set_option linter.unusedSimpArgs false
set_option linter.unusedVariables false
set_option maxRecDepth 100000
set_option maxHeartbeats 4000000
def tuC (n by' : Int) (mir : Bool) (x : Int) : Int := ((if mir = true then n - 1 - x else x) + by').tmod n
def tuX (n by' : Int) (mir : Bool) (x : Int) : Int := 10 * min (tuC n by' mir (x.tdiv 10)) (tuC n by' mir (x.tmod 10)) + max (tuC n by' mir (x.tdiv 10)) (tuC n by' mir (x.tmod 10))
theorem tuC_in {n b x : Int} {mir : Bool} (n0 : 3 ≤ n) (n1 : n ≤ 8) (b0 : 0 ≤ b) (b1 : b < n) (x0 : 0 ≤ x) (x1 : x < n) : 0 ≤ tuC n b mir x ∧ tuC n b mir x < n := by
  unfold tuC
  have h : 0 ≤ (if mir = true then n - 1 - x else x) + b := by split <;> omega
  rw [Int.tmod_eq_emod_of_nonneg h]
  exact ⟨Int.emod_nonneg _ (by omega), Int.emod_lt_of_pos _ (by omega)⟩
theorem diag_parts {n : Int} (h0 : 3 ≤ n) (h1 : n ≤ 8) : ∀ x ∈ diagL n, (0 ≤ x.tdiv 10 ∧ x.tdiv 10 < n) ∧ 0 ≤ x.tmod 10 ∧ x.tmod 10 < n := by
  have h : n = 3 ∨ n = 4 ∨ n = 5 ∨ n = 6 ∨ n = 7 ∨ n = 8 := by omega
  rcases h with rfl | rfl | rfl | rfl | rfl | rfl <;> decide +kernel
theorem tu_fin : ∀ n : Fin 9, ∀ b : Fin 9, ∀ mir : Bool, 3 ≤ n.val → b.val < n.val → ((diagL n.val).map (tuX n.val b.val mir)).Nodup := by decide +kernel
theorem tu_nodup {n b : Int} {mir : Bool} (n0 : 3 ≤ n) (n1 : n ≤ 8) (b0 : 0 ≤ b) (b1 : b < n) : ((diagL n).map (tuX n b mir)).Nodup := by
  have h := tu_fin ⟨n.toNat, by omega⟩ ⟨b.toNat, by omega⟩ mir (by show 3 ≤ n.toNat; omega) (by show b.toNat < n.toNat; omega)
  simp only at h
  rwa [show ((n.toNat : Nat) : Int) = n by omega, show ((b.toNat : Nat) : Int) = b by omega] at h
theorem sub_diag {n : Int} {l : List Int} (h : triV n l = true) : l.Sublist (diagL n) := by
  have hp := triV_poly h
  have e : (diagL n).filter (hasB l) = l := by
    refine asc_eq ((diag_asc hp.1 hp.2).filter _) (triV_pw h) fun x => ?_
    simp only [List.mem_filter, hasB_iff]
    exact ⟨fun h => h.2, fun hx => ⟨triV_mem h hx, hx⟩⟩
  rw [← e]
  exact List.filter_sublist
theorem tu_nodup2 {n b : Int} {mir : Bool} {l : List Int} (h : triV n l = true) (b0 : 0 ≤ b) (b1 : b < n) : (l.map (tuX n b mir)).Nodup := by
  have hp := triV_poly h
  exact ((sub_diag h).map _).nodup (tu_nodup hp.1 hp.2 b0 b1)
def tuV (n : Int) (l : List Int) (b : Int) : Bool := triV n l && (decide (0 ≤ b) && decide (b < n))
def tuR (n : Int) (l : List Int) (b : Int) (mir : Bool) : List Int := if tuV n l b = true then srt (l.map (tuX n b mir)) else []
theorem im_turn1 (x n b : Int) (mir : Bool) (n0 : 3 ≤ n) (n1 : n ≤ 8) (b0 : 0 ≤ b) (b1 : b < n) (x0 : 0 ≤ x) (x1 : x < n) : Spec2 Try.prog 65 [.int fun _ => x, .ibox [.bool fun _ => mir] 0, .ibox [.int fun _ => n] 0, .ibox [.int fun _ => b] 0] [] [.int fun _ => tuC n b mir x] [] := by
  refine fnS [] [5] Try.func65 rfl (by decide) rfl (by decide) (by kernel_rfl) rfl (by simp [Try.ntmps65]) ?_
  cbv
  ((try simp only [IfP_iff, and_true, true_and, decide_eq_true_eq, decide_eq_false_iff_not]); (try simp only [natc, getI_gi, at2_0, at2_1]); (try dsimp only [Ty.den]); (try simp only [natc] at *); (repeat' (first | apply And.intro | intro _)))
  all_goals (try (simp only [IfP_iff, EqU_iff, Obl_iff, and_true, true_and, inI_iff, decide_eq_true_eq, decide_eq_false_iff_not]; (try simp only [natc, getI_gi, at2_0, at2_1]); (try dsimp only [Ty.den]); try simp only [natc] at *))
  all_goals ((repeat' (first | apply And.intro | intro _)) <;> first | omega | (unfold tuC; simp [*]))
theorem im_turn (n : Int) (l : List Int) (b : Int) (mir : Bool) (hl : l.length ≤ 1048576) : Spec2 Try.prog 28 [.int fun _ => n, .sl .int fun _ => l, .int fun _ => b, .bool fun _ => mir] [] [.ref 0, .bool fun _ => tuV n l b] [some (.row 3 .int fun _ => tuR n l b mir)] := by
  by_cases hv : tuV n l b = true
  case neg =>
    have h8 : tuR n l b mir = [] := by unfold tuR; rw [if_neg hv]
    rw [Bool.not_eq_true] at hv
    rw [hv, h8]
    have hno : (!triV n l) = false → (!(decide (0 ≤ b) && decide (b < n))) = false → False := fun h1 h2 => by
      unfold tuV at hv
      rw [show triV n l = true by simpa using h1, show (decide (0 ≤ b) && decide (b < n)) = true by simpa using h2] at hv
      cases hv
    refine fnS [4] [8, 9] Try.func28 rfl (by decide) rfl (by decide) (by kernel_rfl) rfl (by simp [Try.ntmps28]) ?_
    cbv
    repeat' (first | ((first | refine call_q (im_areTri1L n l hl) (by cbv) ?_ | refine call_pure (im_areTri1L n l hl) (by cbv) ?_); cbv; ((try simp only [IfP_iff, and_true, true_and, decide_eq_true_eq, decide_eq_false_iff_not]); (try simp only [natc, getI_gi, at2_0, at2_1]); (try dsimp only [Ty.den]); (try simp only [natc] at *); (repeat' (first | apply And.intro | intro _)))))
    all_goals (try (simp only [IfP_iff, EqU_iff, Obl_iff, and_true, true_and, inI_iff, decide_eq_true_eq, decide_eq_false_iff_not]; (try simp only [natc, getI_gi, at2_0, at2_1]); (try dsimp only [Ty.den]); try simp only [natc] at *))
    ((try simp only [IfP_iff, and_true, true_and, decide_eq_true_eq, decide_eq_false_iff_not]); (try simp only [natc, getI_gi, at2_0, at2_1]); (try dsimp only [Ty.den]); (try simp only [natc] at *); (repeat' (first | apply And.intro | intro _)))
    all_goals (repeat' (first | ((first | refine call_q (im_isIndex b n) (by cbv) ?_ | refine call_pure (im_isIndex b n) (by cbv) ?_); cbv; ((try simp only [IfP_iff, and_true, true_and, decide_eq_true_eq, decide_eq_false_iff_not]); (try simp only [natc, getI_gi, at2_0, at2_1]); (try dsimp only [Ty.den]); (try simp only [natc] at *); (repeat' (first | apply And.intro | intro _))))))
    all_goals (try ((try simp only [IfP_iff, and_true, true_and, decide_eq_true_eq, decide_eq_false_iff_not]); (try simp only [natc, getI_gi, at2_0, at2_1]); (try dsimp only [Ty.den]); (try simp only [natc] at *); (repeat' (first | apply And.intro | intro _))))
    all_goals (try (exact (hno (by assumption) (by assumption)).elim))
    all_goals (try (simp only [IfP_iff, EqU_iff, Obl_iff, and_true, true_and, inI_iff, decide_eq_true_eq, decide_eq_false_iff_not]; (try simp only [natc, getI_gi, at2_0, at2_1]); (try dsimp only [Ty.den]); try simp only [natc] at *))
  have hv2 := hv
  unfold tuV at hv2
  simp only [Bool.and_eq_true, decide_eq_true_eq] at hv2
  obtain ⟨hv3, b0, b1⟩ := hv2
  have h8 : tuR n l b mir = srt (l.map (tuX n b mir)) := by unfold tuR; rw [if_pos hv]
  have hp := triV_poly hv3
  have hlen := triV_len hv3
  have hc : (decide (0 ≤ b) && decide (b < n)) = true := by rw [decide_eq_true b0, decide_eq_true b1]; rfl
  have hm : (l.map (tuX n b mir)).length ≤ 1048576 := by rw [List.length_map]; omega
  rw [hv, h8]
  refine fnS [4] [8, 9] Try.func28 rfl (by decide) rfl (by decide) (by kernel_rfl) rfl (by simp [Try.ntmps28]) ?_
  cbv
  repeat' (first | ((first | refine call_q (im_areTri1L n l hl) (by cbv) ?_ | refine call_pure (im_areTri1L n l hl) (by cbv) ?_); cbv; ((try simp only [IfP_iff, and_true, true_and, decide_eq_true_eq, decide_eq_false_iff_not]); (try simp only [natc, getI_gi, at2_0, at2_1]); (try dsimp only [Ty.den]); (try simp only [natc] at *); (repeat' (first | apply And.intro | intro _)))))
  all_goals (try (simp only [IfP_iff, EqU_iff, Obl_iff, and_true, true_and, inI_iff, decide_eq_true_eq, decide_eq_false_iff_not]; (try simp only [natc, getI_gi, at2_0, at2_1]); (try dsimp only [Ty.den]); try simp only [natc] at *))
  ((try simp only [IfP_iff, and_true, true_and, decide_eq_true_eq, decide_eq_false_iff_not]); (try simp only [natc, getI_gi, at2_0, at2_1]); (try dsimp only [Ty.den]); (try simp only [natc] at *); (repeat' (first | apply And.intro | intro _)))
  all_goals (repeat' (first | ((first | refine call_q (im_isIndex b n) (by cbv) ?_ | refine call_pure (im_isIndex b n) (by cbv) ?_); cbv; ((try simp only [IfP_iff, and_true, true_and, decide_eq_true_eq, decide_eq_false_iff_not]); (try simp only [natc, getI_gi, at2_0, at2_1]); (try dsimp only [Ty.den]); (try simp only [natc] at *); (repeat' (first | apply And.intro | intro _))))))
  all_goals (try ((try simp only [IfP_iff, and_true, true_and, decide_eq_true_eq, decide_eq_false_iff_not]); (try simp only [natc, getI_gi, at2_0, at2_1]); (try dsimp only [Ty.den]); (try simp only [natc] at *); (repeat' (first | apply And.intro | intro _))))
  all_goals (try (exact absurd (by assumption : (!triV n l) = true) (by rw [hv3]; decide)))
  all_goals (try (exact absurd (by assumption : (!(decide (0 ≤ b) && decide (b < n))) = true) (by rw [hc]; decide)))
  refine loopP (by kernel_rfl) (fun k : Int => 0 ≤ k ∧ k ≤ l.length) (fun k => [(32, .int fun _ => k), (11, .ref 4), (29, .junk), (13, .junk), (14, .junk), (15, .junk)]) (fun k => [(4, some (.row 3 .int fun _ => (l.take k.toNat).map (tuX n b mir)))]) (fun k => (l.length - k).toNat) (· + 1) 0 (by omega) ?_ ?_
  · cbv
    (simp only [IfP_iff, EqU_iff, Obl_iff, and_true, true_and, inI_iff, decide_eq_true_eq, decide_eq_false_iff_not]; (try simp only [natc, getI_gi, at2_0, at2_1]); (try dsimp only [Ty.den]); try simp only [natc] at *)
    rfl
  · intro k hk
    have c1 : k < (l.length : Int) → gi l k ∈ diagL n := fun h => triV_mem hv3 (gi_mem hk.1 h)
    have c2 : k < (l.length : Int) → (0 ≤ (gi l k).tdiv 10 ∧ (gi l k).tdiv 10 < n) ∧ 0 ≤ (gi l k).tmod 10 ∧ (gi l k).tmod 10 < n := fun h => diag_parts hp.1 hp.2 _ (c1 h)
    have c3 : k < (l.length : Int) → 0 ≤ gi l k ∧ gi l k < 100 := fun h => diag_in hp.1 hp.2 _ (c1 h)
    have c4 : k < (l.length : Int) → (l.take k.toNat).map (tuX n b mir) ++ [10 * min (tuC n b mir ((gi l k).tdiv 10)) (tuC n b mir ((gi l k).tmod 10)) + max (tuC n b mir ((gi l k).tdiv 10)) (tuC n b mir ((gi l k).tmod 10))] = (l.take (k + 1).toNat).map (tuX n b mir) := fun h => by rw [take_gi hk.1 h, List.map_append]; rfl
    have c5 : ¬ k < (l.length : Int) → (l.take k.toNat).map (tuX n b mir) = l.map (tuX n b mir) := fun h => by rw [List.take_of_length_le (by omega)]
    have d1 : k < (l.length : Int) → 0 ≤ tuC n b mir ((gi l k).tdiv 10) ∧ tuC n b mir ((gi l k).tdiv 10) < 10 := fun h => by
      have := tuC_in (mir := mir) hp.1 hp.2 b0 b1 (c2 h).1.1 (c2 h).1.2
      omega
    have d2 : k < (l.length : Int) → 0 ≤ tuC n b mir ((gi l k).tmod 10) ∧ tuC n b mir ((gi l k).tmod 10) < 10 := fun h => by
      have := tuC_in (mir := mir) hp.1 hp.2 b0 b1 (c2 h).2.1 (c2 h).2.2
      omega
    have d3 : ((l.take k.toNat).map (tuX n b mir)).length ≤ 5 := by rw [List.length_map, List.length_take]; omega
    clear c1
    cbv
    ((try simp only [IfP_iff, and_true, true_and, decide_eq_true_eq, decide_eq_false_iff_not]); (try simp only [natc, getI_gi, at2_0, at2_1]); (try dsimp only [Ty.den]); (try simp only [natc] at *); (repeat' (first | apply And.intro | intro _)))
    all_goals (repeat' (first | ((first | refine call_q (im_corners (gi l k) (c3 (by assumption)).1 (c3 (by assumption)).2) (by cbv) ?_ | refine call_pure (im_corners (gi l k) (c3 (by assumption)).1 (c3 (by assumption)).2) (by cbv) ?_); cbv; ((try simp only [IfP_iff, and_true, true_and, decide_eq_true_eq, decide_eq_false_iff_not]); (try simp only [natc, getI_gi, at2_0, at2_1]); (try dsimp only [Ty.den]); (try simp only [natc] at *); (repeat' (first | apply And.intro | intro _)))) | ((first | refine call_q (im_turn1 ((gi l k).tdiv 10) n b mir hp.1 hp.2 b0 b1 (c2 (by assumption)).1.1 (c2 (by assumption)).1.2) (by cbv) ?_ | refine call_pure (im_turn1 ((gi l k).tdiv 10) n b mir hp.1 hp.2 b0 b1 (c2 (by assumption)).1.1 (c2 (by assumption)).1.2) (by cbv) ?_); cbv; ((try simp only [IfP_iff, and_true, true_and, decide_eq_true_eq, decide_eq_false_iff_not]); (try simp only [natc, getI_gi, at2_0, at2_1]); (try dsimp only [Ty.den]); (try simp only [natc] at *); (repeat' (first | apply And.intro | intro _)))) | ((first | refine call_q (im_turn1 ((gi l k).tmod 10) n b mir hp.1 hp.2 b0 b1 (c2 (by assumption)).2.1 (c2 (by assumption)).2.2) (by cbv) ?_ | refine call_pure (im_turn1 ((gi l k).tmod 10) n b mir hp.1 hp.2 b0 b1 (c2 (by assumption)).2.1 (c2 (by assumption)).2.2) (by cbv) ?_); cbv; ((try simp only [IfP_iff, and_true, true_and, decide_eq_true_eq, decide_eq_false_iff_not]); (try simp only [natc, getI_gi, at2_0, at2_1]); (try dsimp only [Ty.den]); (try simp only [natc] at *); (repeat' (first | apply And.intro | intro _)))) | ((first | refine call_q (im_diagAt (tuC n b mir ((gi l k).tdiv 10)) (tuC n b mir ((gi l k).tmod 10)) (d1 (by assumption)).1 (d1 (by assumption)).2 (d2 (by assumption)).1 (d2 (by assumption)).2) (by cbv) ?_ | refine call_pure (im_diagAt (tuC n b mir ((gi l k).tdiv 10)) (tuC n b mir ((gi l k).tmod 10)) (d1 (by assumption)).1 (d1 (by assumption)).2 (d2 (by assumption)).1 (d2 (by assumption)).2) (by cbv) ?_); cbv; ((try simp only [IfP_iff, and_true, true_and, decide_eq_true_eq, decide_eq_false_iff_not]); (try simp only [natc, getI_gi, at2_0, at2_1]); (try dsimp only [Ty.den]); (try simp only [natc] at *); (repeat' (first | apply And.intro | intro _))))))
    all_goals (try ((try simp only [IfP_iff, and_true, true_and, decide_eq_true_eq, decide_eq_false_iff_not]); (try simp only [natc, getI_gi, at2_0, at2_1]); (try dsimp only [Ty.den]); (try simp only [natc] at *); (repeat' (first | apply And.intro | intro _))))
    all_goals (try (rw [c5 (by assumption)]))
    all_goals (try ((refine call_own 4 (go_sort (l.map (tuX n b mir)) hm) (by cbv) (by cbv; simp only [or_true, true_or, and_true]) ?_; cbv; ((try simp only [IfP_iff, and_true, true_and, decide_eq_true_eq, decide_eq_false_iff_not]); (try simp only [natc, getI_gi, at2_0, at2_1]); (try dsimp only [Ty.den]); (try simp only [natc] at *); (repeat' (first | apply And.intro | intro _))))))
    all_goals (try (simp only [IfP_iff, EqU_iff, Obl_iff, and_true, true_and, inI_iff, decide_eq_true_eq, decide_eq_false_iff_not]; (try simp only [natc, getI_gi, at2_0, at2_1]); (try dsimp only [Ty.den]); try simp only [natc] at *))
    all_goals ((repeat' (first | apply And.intro | intro _)) <;> first | omega | (exact c4 (by assumption)) | (rw [List.length_cons, List.length_nil]; omega) | trace_state)
end Go.Proofs.Ytbpheblbbdiapaa.M

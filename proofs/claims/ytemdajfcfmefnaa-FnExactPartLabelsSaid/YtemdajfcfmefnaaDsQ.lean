/- Distances from a place, on both sides. -/
import Derived.Test.YtemdajfcfmefnaaFzQ
import Derived.Test.YtemdajfcfmefnaaRcQ
import Derived.Test.YtemdajfcfmefnaaQg
namespace Go.Proofs.Ytemdajfcfmefnaa.M
open Go.RowKit Abs
set_option linter.unusedSimpArgs false
set_option linter.unusedVariables false
set_option maxRecDepth 100000
set_option maxHeartbeats 4000000
theorem near_ok {n : Nat} {l : List (Int × Int)} (h : pairsOk l n = true) : (nearR l n).length = n ∧ near_in (nearR l n).length (nearR l n) ∧ ∀ r ∈ nearR l n, r.length ≤ l.length := by
  have hlen : (nearR l (n : Int)).length = n := by rw [nearR_len, Int.toNat_natCast]
  have he := (pairs_edges h).1
  have row : ∀ r ∈ nearR l (n : Int), ∃ v : Int, r = rowV v l := fun r hr => by
    obtain ⟨k, hk, rfl⟩ := List.mem_iff_getElem.1 hr
    refine ⟨(k : Int), ?_⟩
    rw [← nearR_row (n := (n : Int)) (by omega) he]
    have := getR_get (t := .int) (l := nearR l (n : Int)) (i := (k : Int)) (by omega) (by omega)
    simp only [Int.toNat_natCast] at this
    exact (List.getElem?_eq_some_iff.1 this).2
  refine ⟨hlen, fun r hr v hv => ?_, fun r hr => ?_⟩
  · obtain ⟨u, rfl⟩ := row r hr
    unfold rowV at hv
    obtain ⟨e, hm, ha⟩ := List.mem_filterMap.1 hv
    have := he e hm
    rw [hlen]
    split at ha
    · cases ha; omega
    · split at ha
      · cases ha; omega
      · cases ha
  · obtain ⟨u, rfl⟩ := row r hr
    exact rowV_len u l
def distR (L : List (List Int)) (l : List (Int × Int)) (i : Int) : List Int := (search (nearR l L.length) (fun _ => true) i).1
def queR (L : List (List Int)) (l : List (Int × Int)) (i : Int) : List Int := (search (nearR l L.length) (fun _ => true) i).2
theorem sp_dist (L : List (List Int)) (l : List (Int × Int)) (i : Int) (hL : L.length ≤ 1048576) (hl : l.length ≤ 1048576) (hp : pairsOk l L.length = true) (h0 : 0 ≤ i) (h1 : i < L.length) :
    Spec2 Try.prog 63 [.agg (.pr (.sl (.sl .int)) (.sl (.pr .int .int))) fun _ => (L, l), .int fun _ => i] [] [.ref 0] [some (.row 3 .int fun _ => distR L l i)] := by
  obtain ⟨n1, n2, n3⟩ := near_ok hp
  have hs := sp_spread (nearR l L.length) i h0 (by omega) (by omega) n2 (fun r hr => Nat.le_trans (n3 r hr) hl)
  refine fnS [2] [4] Try.func63 rfl (by decide) rfl (by decide) (by kernel_rfl) rfl (by simp [Try.ntmps63]) ?_
  cbv
  ((first | refine call_q (sp_lists L l hL hl hp) (by cbv) ?_ | refine call_pure (sp_lists L l hL hl hp) (by cbv) ?_); cbv; ((try simp only [IfP_iff, and_true, true_and, decide_eq_true_eq, decide_eq_false_iff_not]); (try simp only [natc, getI_gi, at2_0, at2_1]); (try dsimp only [Ty.den]); (try simp only [natc] at *); (repeat' (first | apply And.intro | intro _))))
  ((first | refine call_q hs (by cbv) ?_ | refine call_pure hs (by cbv) ?_); cbv; ((try simp only [IfP_iff, and_true, true_and, decide_eq_true_eq, decide_eq_false_iff_not]); (try simp only [natc, getI_gi, at2_0, at2_1]); (try dsimp only [Ty.den]); (try simp only [natc] at *); (repeat' (first | apply And.intro | intro _))))
  (simp only [IfP_iff, EqU_iff, Obl_iff, and_true, true_and, inI_iff, decide_eq_true_eq, decide_eq_false_iff_not]; (try simp only [natc, getI_gi, at2_0, at2_1]); (try dsimp only [Ty.den]); try simp only [natc] at *)
  rfl
theorem sp_distances (L : List (List Int)) (l : List (Int × Int)) (i : Int) (hL : L.length ≤ 1048576) (hl : l.length ≤ 1048576) (hm : ∀ s ∈ L, s.length ≤ 1048576) : Spec2 Try.prog 28 [.agg (.pr (.sl (.sl .int)) (.sl (.pr .int .int))) fun _ => (L, l), .int fun _ => i] [] [.ref 0, .bool fun _ => okS L l i] [some (.row 3 .int fun _ => if okS L l i = true then distR L l i else [])] := by
  cases hb : okS L l i with
  | false =>
    refine fnS [1] [4, 5] Try.func28 rfl (by decide) rfl (by decide) (by kernel_rfl) rfl (by simp [Try.ntmps28]) ?_
    cbv
    ((first | refine call_q (sp_place L l i hL hl hm) (by cbv) ?_ | refine call_pure (sp_place L l i hL hl hm) (by cbv) ?_); cbv; ((try simp only [IfP_iff, and_true, true_and, decide_eq_true_eq, decide_eq_false_iff_not]); (try simp only [natc, getI_gi, at2_0, at2_1]); (try dsimp only [Ty.den]); (try simp only [natc] at *); (repeat' (first | apply And.intro | intro _))))
    all_goals (try (simp only [IfP_iff, EqU_iff, Obl_iff, and_true, true_and, inI_iff, decide_eq_true_eq, decide_eq_false_iff_not]; (try simp only [natc, getI_gi, at2_0, at2_1]); (try dsimp only [Ty.den]); try simp only [natc] at *))
    all_goals (first | omega | (simp [hb]; done) | (exfalso; grind) | skip)
  | true =>
    have hb' := hb
    simp only [okS, Bool.and_eq_true, decide_eq_true_eq] at hb'
    have hd := sp_dist L l i hL hl (space_parts hb'.1).2.2.2 hb'.2.1 hb'.2.2
    refine fnS [1] [4, 5] Try.func28 rfl (by decide) rfl (by decide) (by kernel_rfl) rfl (by simp [Try.ntmps28]) ?_
    cbv
    repeat' (first | ((first | refine call_q (sp_place L l i hL hl hm) (by cbv) ?_ | refine call_pure (sp_place L l i hL hl hm) (by cbv) ?_); cbv; ((try simp only [IfP_iff, and_true, true_and, decide_eq_true_eq, decide_eq_false_iff_not]); (try simp only [natc, getI_gi, at2_0, at2_1]); (try dsimp only [Ty.den]); (try simp only [natc] at *); (repeat' (first | apply And.intro | intro _)))) | ((first | refine call_q hd (by cbv) ?_ | refine call_pure hd (by cbv) ?_); cbv; ((try simp only [IfP_iff, and_true, true_and, decide_eq_true_eq, decide_eq_false_iff_not]); (try simp only [natc, getI_gi, at2_0, at2_1]); (try dsimp only [Ty.den]); (try simp only [natc] at *); (repeat' (first | apply And.intro | intro _)))))
    all_goals (try (simp only [IfP_iff, EqU_iff, Obl_iff, and_true, true_and, inI_iff, decide_eq_true_eq, decide_eq_false_iff_not]; (try simp only [natc, getI_gi, at2_0, at2_1]); (try dsimp only [Ty.den]); try simp only [natc] at *))
    all_goals (first | omega | (simp [hb]; done) | (exfalso; grind) | skip)
theorem im_distances_bad (L : List (List Int)) (l : List (Int × Int)) (i : Int) (hL : L.length ≤ 1048576) (hl : l.length ≤ 1048576) (hm : ∀ s ∈ L, s.length ≤ 1048576) (hb : okS L l i = false) : Spec2 Try.prog 29 [.agg (.pr (.sl (.sl .int)) (.sl (.pr .int .int))) fun _ => (L, l), .int fun _ => i] [] [.ref 0, .bool fun _ => false] [some (.row 3 .int fun _ => [])] := by
  simp only [okS] at hb
  rw [← inAll_one] at hb
  refine fnS [2] [4, 5] Try.func29 rfl (by decide) rfl (by decide) (by kernel_rfl) rfl (by simp [Try.ntmps29]) ?_
  cbv
  repeat' (first | ((first | refine call_q (im_hasPlaces L l [i] (by simp) hL hl hm) (by cbv) ?_ | refine call_pure (im_hasPlaces L l [i] (by simp) hL hl hm) (by cbv) ?_); cbv; ((try simp only [IfP_iff, and_true, true_and, decide_eq_true_eq, decide_eq_false_iff_not]); (try simp only [natc, getI_gi, at2_0, at2_1]); (try dsimp only [Ty.den]); (try simp only [natc] at *); (repeat' (first | apply And.intro | intro _)))))
  all_goals (try (simp only [IfP_iff, EqU_iff, Obl_iff, and_true, true_and, inI_iff, decide_eq_true_eq, decide_eq_false_iff_not]; (try simp only [natc, getI_gi, at2_0, at2_1]); (try dsimp only [Ty.den]); try simp only [natc] at *))
  all_goals (first | omega | (exfalso; grind) | skip)
theorem im_distances_ok (L : List (List Int)) (l : List (Int × Int)) (i : Int) (hL : L.length ≤ 1048576) (hl : l.length ≤ 1048576) (hm : ∀ s ∈ L, s.length ≤ 1048576) (hb : okS L l i = true) : Spec2 Try.prog 29 [.agg (.pr (.sl (.sl .int)) (.sl (.pr .int .int))) fun _ => (L, l), .int fun _ => i] [] [.ref 0, .bool fun _ => true] [some (.row 3 .int fun _ => distR L l i)] := by
  have hb' := hb
  simp only [okS, Bool.and_eq_true, decide_eq_true_eq] at hb'
  simp only [okS] at hb
  rw [← inAll_one] at hb
  obtain ⟨n1, n2, n3⟩ := near_ok (space_parts hb'.1).2.2.2
  have hr := im_reach (nearR l L.length) (fun _ => true) 65 (fun _ => ofCaps []) i hb'.2.1 (by omega) (by omega) n2 (fun r hr => Nat.le_trans (n3 r hr) hl) (fun v _ _ => ⟨[], rfl, fun _ => rfl, im_any v⟩)
  refine fnS [4] [4, 5] Try.func29 rfl (by decide) rfl (by decide) (by kernel_rfl) rfl (by simp [Try.ntmps29]) ?_
  cbv
  repeat' (first | ((first | refine call_q (im_hasPlaces L l [i] (by simp) hL hl hm) (by cbv) ?_ | refine call_pure (im_hasPlaces L l [i] (by simp) hL hl hm) (by cbv) ?_); cbv; ((try simp only [IfP_iff, and_true, true_and, decide_eq_true_eq, decide_eq_false_iff_not]); (try simp only [natc, getI_gi, at2_0, at2_1]); (try dsimp only [Ty.den]); (try simp only [natc] at *); (repeat' (first | apply And.intro | intro _)))) | ((first | refine call_q (im_stepLists L l hL hl (space_parts hb'.1).2.2.2) (by cbv) ?_ | refine call_pure (im_stepLists L l hL hl (space_parts hb'.1).2.2.2) (by cbv) ?_); cbv; ((try simp only [IfP_iff, and_true, true_and, decide_eq_true_eq, decide_eq_false_iff_not]); (try simp only [natc, getI_gi, at2_0, at2_1]); (try dsimp only [Ty.den]); (try simp only [natc] at *); (repeat' (first | apply And.intro | intro _)))) | ((first | refine call_q hr (by cbv) ?_ | refine call_pure hr (by cbv) ?_); cbv; ((try simp only [IfP_iff, and_true, true_and, decide_eq_true_eq, decide_eq_false_iff_not]); (try simp only [natc, getI_gi, at2_0, at2_1]); (try dsimp only [Ty.den]); (try simp only [natc] at *); (repeat' (first | apply And.intro | intro _)))))
  all_goals (try (simp only [IfP_iff, EqU_iff, Obl_iff, and_true, true_and, inI_iff, decide_eq_true_eq, decide_eq_false_iff_not]; (try simp only [natc, getI_gi, at2_0, at2_1]); (try dsimp only [Ty.den]); try simp only [natc] at *))
  all_goals (first | omega | rfl | (exfalso; grind) | skip)
theorem im_distances (L : List (List Int)) (l : List (Int × Int)) (i : Int) (hL : L.length ≤ 1048576) (hl : l.length ≤ 1048576) (hm : ∀ s ∈ L, s.length ≤ 1048576) : Spec2 Try.prog 29 [.agg (.pr (.sl (.sl .int)) (.sl (.pr .int .int))) fun _ => (L, l), .int fun _ => i] [] [.ref 0, .bool fun _ => okS L l i] [some (.row 3 .int fun _ => if okS L l i = true then distR L l i else [])] := by
  cases h : okS L l i with
  | false =>
    simp only [Bool.false_eq_true, if_false]
    exact im_distances_bad L l i hL hl hm h
  | true =>
    simp only [if_true]
    exact im_distances_ok L l i hL hl hm h
theorem distances_bound {L : List (List Int)} {l : List (Int × Int)} {i : Int} : (if okS L l i = true then distR L l i else []).length ≤ 1048576 := by
  split
  · rename_i h
    simp only [okS, Bool.and_eq_true, decide_eq_true_eq] at h
    obtain ⟨n1, n2, n3⟩ := near_ok (space_parts h.1).2.2.2
    have := (search_inv (q := fun _ => true) h.2.1 (by omega : i < (nearR l L.length).length) n2).len
    have := (space_parts h.1).1
    unfold distR
    omega
  · simp
end Go.Proofs.Ytemdajfcfmefnaa.M

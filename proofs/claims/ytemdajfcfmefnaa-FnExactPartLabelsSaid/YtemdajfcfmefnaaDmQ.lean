/- The diameter, on both sides. -/
import Derived.Test.YtemdajfcfmefnaaDsQ
import Derived.Test.YtemdajfcfmefnaaQg
namespace Go.Proofs.Ytemdajfcfmefnaa.M
open Go.RowKit Abs
set_option linter.unusedSimpArgs false
set_option linter.unusedVariables false
set_option maxRecDepth 100000
set_option maxHeartbeats 4000000
def mx (a b : Int) : Int := if a < b then b else a
theorem mx_max (a b : Int) : mx a b = max a b := by unfold mx; omega
theorem sp_most (a b : Int) : Spec2 Try.prog 76 [.int fun _ => a, .int fun _ => b] [] [.int fun _ => mx a b] [] := by
  refine fnS [] [4] Try.func76 rfl (by decide) rfl (by decide) (by kernel_rfl) rfl (by simp [Try.ntmps76]) ?_
  cbv
  unfold mx
  ((try simp only [IfP_iff, and_true, true_and, decide_eq_true_eq, decide_eq_false_iff_not]); (try simp only [natc, getI_gi, at2_0, at2_1]); (try dsimp only [Ty.den]); (try simp only [natc] at *); (repeat' (first | apply And.intro | intro _)))
  all_goals (try (simp only [IfP_iff, EqU_iff, Obl_iff, and_true, true_and, inI_iff, decide_eq_true_eq, decide_eq_false_iff_not]; (try simp only [natc, getI_gi, at2_0, at2_1]); (try dsimp only [Ty.den]); try simp only [natc] at *))
  all_goals ((repeat' (first | apply And.intro | intro _)) <;> first | omega | (simp only [List.length_append, List.length_cons, List.length_nil]; omega) | grind)
theorem go_max (l : List Int) (h0 : l ≠ []) (hl : l.length ≤ 1048576) : Spec2 Try.prog 77 [.sl .int fun _ => l] [] [.int fun _ => Lib.maxOf l] [] := by
  refine ⟨by kernel_rfl, Nat.le_refl _, fun w val vs hH hv => ?_⟩
  match vs, hv with
  | [v], hv =>
  simp only [VRelL, VRel, and_true] at hv
  unfold Rep at hv
  obtain ⟨a, cap, he, h1, h2, h3⟩ := hv
  simp only [List.cons.injEq, and_true] at he
  subst he
  rcases h3 with h3 | ⟨b, o, xs, rfl, _, _, h4, h5, h6⟩
  · exact (h0 h3).elim
  have hpos : 0 < l.length := List.length_pos_iff.2 h0
  refine (Try.slices_Max_int b o l.length cap l w hpos (Nat.le_refl _) (by omega) (fun j hj => ?_)).mono ?_
  · have h7 := h6 j l[j] (List.getElem?_eq_getElem hj)
    unfold Rep at h7
    have h8 : xs[j]? = some (.int .i64 l[j]) := by
      have : ((xs.drop (j * Ty.int.n)).take Ty.int.n)[0]? = some (.int .i64 l[j]) := by rw [h7]; rfl
      rw [List.getElem?_take, List.getElem?_drop] at this
      simpa [Ty.n] using this
    rw [h5 j _ h8]
    simp [List.getD_eq_getElem?_getD, List.getElem?_eq_getElem hj]
  · rintro e w' ⟨rfl, rfl⟩
    rw [List.take_of_length_le (Nat.le_refl _)]
    exact ⟨_, val, rfl, ⟨rfl, rfl, rfl, Nat.le_refl _, fun _ _ _ => rfl⟩, ⟨fun n B h => by simp at h, fun n B h => by simp at h, fun n m B C _ h => by simp at h⟩, fun n B h => by simp at h, fun n h => by simp at h, by show VRel _ _ _ _ _ _; simp only [VRel]⟩
theorem foldl_mx : ∀ (l : List Int) (a b : Int), l.foldl mx (mx a b) = mx a (l.foldl mx b)
  | [], a, b => rfl
  | x :: l, a, b => by
    rw [List.foldl_cons, List.foldl_cons]
    have : mx (mx a b) x = mx a (mx b x) := by simp only [mx_max]; omega
    rw [this, foldl_mx l]
theorem fold_max {l : List Int} (h : l ≠ []) (a : Int) : l.foldl mx a = mx a (Lib.maxOf l) := by
  have e : mx = max := by funext a b; exact mx_max a b
  unfold Lib.maxOf
  cases l with
  | nil => exact (h rfl).elim
  | cons x l =>
    rw [List.headD_cons, List.foldl_cons, List.foldl_cons, ← e, foldl_mx]
    congr 2
    unfold mx; simp
/-- The greatest distance from the first places. -/
def diam (L : List (List Int)) (l : List (Int × Int)) (k : Nat) : Int := (List.range k).foldl (fun (a : Int) (v : Nat) => mx a (Lib.maxOf (distR L l (v : Int)))) 0
theorem diam_next {L : List (List Int)} {l : List (Int × Int)} {k : Int} (h : 0 ≤ k) : diam L l (k + 1).toNat = mx (diam L l k.toNat) (Lib.maxOf (distR L l k)) := by
  unfold diam
  rw [show (k + 1).toNat = k.toNat + 1 by omega, List.range_succ, List.foldl_append]
  simp only [List.foldl_cons, List.foldl_nil]
  rw [Int.toNat_of_nonneg h]
theorem dist_ok {L : List (List Int)} {l : List (Int × Int)} {i : Int} (hp : pairsOk l L.length = true) (h0 : 0 ≤ i) (h1 : i < L.length) : (distR L l i).length = L.length ∧ ∀ v : Int, gi (distR L l i) v < L.length + 1 := by
  obtain ⟨n1, n2, n3⟩ := near_ok hp
  have h := search_inv (q := fun _ => true) h0 (by omega : i < (nearR l L.length).length) n2
  refine ⟨by unfold distR; rw [h.len, n1], fun v => ?_⟩
  have := h.up v
  have := h.cnt
  unfold distR
  omega
theorem im_diameter (L : List (List Int)) (l : List (Int × Int)) (hL : L.length ≤ 1048576) (hl : l.length ≤ 1048576) (hm : ∀ s ∈ L, s.length ≤ 1048576) : Spec2 Try.prog 40 [.agg (.pr (.sl (.sl .int)) (.sl (.pr .int .int))) fun _ => (L, l)] [] [.int fun _ => if spaceOk L l = true then diam L l L.length else 0, .bool fun _ => spaceOk L l] [] := by
  cases hb : spaceOk L l with
  | false =>
    refine fnS [] [2, 3] Try.func40 rfl (by decide) rfl (by decide) (by kernel_rfl) rfl (by simp [Try.ntmps40]) ?_
    cbv
    ((first | refine call_q (im_space L l hL hl hm) (by cbv) ?_ | refine call_pure (im_space L l hL hl hm) (by cbv) ?_); cbv; ((try simp only [IfP_iff, and_true, true_and, decide_eq_true_eq, decide_eq_false_iff_not]); (try simp only [natc, getI_gi, at2_0, at2_1]); (try dsimp only [Ty.den]); (try simp only [natc] at *); (repeat' (first | apply And.intro | intro _))))
    all_goals (try (simp only [IfP_iff, EqU_iff, Obl_iff, and_true, true_and, inI_iff, decide_eq_true_eq, decide_eq_false_iff_not]; (try simp only [natc, getI_gi, at2_0, at2_1]); (try dsimp only [Ty.den]); try simp only [natc] at *))
    all_goals (first | omega | (simp [hb]; done) | (exfalso; grind) | skip)
  | true =>
    have hp := (space_parts hb).2.2.2
    obtain ⟨n1, n2, n3⟩ := near_ok hp
    have hr : ∀ i : Int, 0 ≤ i → i < L.length → Spec2 Try.prog 64 [.sl (.sl .int) fun _ => nearR l L.length, .int fun _ => i, .fnr 65 fun _ => ofCaps []] [] [.ref 0, .ref 1] [some (.row 3 .int fun _ => (search (nearR l L.length) (fun _ => true) i).2), some (.row 3 .int fun _ => distR L l i)] := fun i h0 h1 => im_reach (nearR l L.length) (fun _ => true) 65 (fun _ => ofCaps []) i h0 (by omega) (by omega) n2 (fun r hr => Nat.le_trans (n3 r hr) hl) (fun v _ _ => ⟨[], rfl, fun _ => rfl, im_any v⟩)
    simp only [if_true]
    refine fnS [] [2, 3] Try.func40 rfl (by decide) rfl (by decide) (by kernel_rfl) rfl (by simp [Try.ntmps40]) ?_
    cbv
    repeat' (first | ((first | refine call_q (im_space L l hL hl hm) (by cbv) ?_ | refine call_pure (im_space L l hL hl hm) (by cbv) ?_); cbv; ((try simp only [IfP_iff, and_true, true_and, decide_eq_true_eq, decide_eq_false_iff_not]); (try simp only [natc, getI_gi, at2_0, at2_1]); (try dsimp only [Ty.den]); (try simp only [natc] at *); (repeat' (first | apply And.intro | intro _)))) | ((first | refine call_q (im_stepLists L l hL hl hp) (by cbv) ?_ | refine call_pure (im_stepLists L l hL hl hp) (by cbv) ?_); cbv; ((try simp only [IfP_iff, and_true, true_and, decide_eq_true_eq, decide_eq_false_iff_not]); (try simp only [natc, getI_gi, at2_0, at2_1]); (try dsimp only [Ty.den]); (try simp only [natc] at *); (repeat' (first | apply And.intro | intro _)))))
    rotate_right 1
    · refine loopP (by kernel_rfl) (fun k : Int => 0 ≤ k ∧ k ≤ L.length) (fun k => [(16, .int fun _ => k), (5, .int fun _ => diam L l k.toNat)]) (fun _ => []) (fun k => (L.length - k).toNat) (· + 1) 0 (by simp) ?_ ?_
      · cbv
        (simp only [IfP_iff, EqU_iff, Obl_iff, and_true, true_and, inI_iff, decide_eq_true_eq, decide_eq_false_iff_not]; (try simp only [natc, getI_gi, at2_0, at2_1]); (try dsimp only [Ty.den]); try simp only [natc] at *)
        simp [diam]
      · intro k hk
        have d1 := dist_ok (i := k) hp hk.1
        have d2 := diam_next (L := L) (l := l) hk.1
        have d3 : ¬ k < (L.length : Int) → k.toNat = L.length := by omega
        have d4 : k < (L.length : Int) → distR L l k ≠ [] := fun a e => by have := (d1 a).1; rw [e] at this; simp at this; omega
        have d5 : k < (L.length : Int) → (distR L l k).length ≤ 1048576 := fun a => by rw [(d1 a).1]; exact hL
        clear d1
        unfold mx at d2
        cbv
        ((try simp only [IfP_iff, and_true, true_and, decide_eq_true_eq, decide_eq_false_iff_not]); (try simp only [natc, getI_gi, at2_0, at2_1]); (try dsimp only [Ty.den]); (try simp only [natc] at *); (repeat' (first | apply And.intro | intro _)))
        repeat' (first | ((first | refine call_q (hr k hk.1 (by omega)) (by cbv) ?_ | refine call_pure (hr k hk.1 (by omega)) (by cbv) ?_); cbv; ((try simp only [IfP_iff, and_true, true_and, decide_eq_true_eq, decide_eq_false_iff_not]); (try simp only [natc, getI_gi, at2_0, at2_1]); (try dsimp only [Ty.den]); (try simp only [natc] at *); (repeat' (first | apply And.intro | intro _)))) | ((first | refine call_q (go_max (distR L l k) (d4 (by omega)) (d5 (by omega))) (by cbv) ?_ | refine call_pure (go_max (distR L l k) (d4 (by omega)) (d5 (by omega))) (by cbv) ?_); cbv; ((try simp only [IfP_iff, and_true, true_and, decide_eq_true_eq, decide_eq_false_iff_not]); (try simp only [natc, getI_gi, at2_0, at2_1]); (try dsimp only [Ty.den]); (try simp only [natc] at *); (repeat' (first | apply And.intro | intro _)))))
        all_goals (try (simp only [IfP_iff, EqU_iff, Obl_iff, and_true, true_and, inI_iff, decide_eq_true_eq, decide_eq_false_iff_not]; (try simp only [natc, getI_gi, at2_0, at2_1]); (try dsimp only [Ty.den]); try simp only [natc] at *))
        all_goals ((repeat' (first | apply And.intro | intro _)) <;> first | omega | (rw [d2]; done) | grind)
    all_goals (try (simp only [IfP_iff, EqU_iff, Obl_iff, and_true, true_and, inI_iff, decide_eq_true_eq, decide_eq_false_iff_not]; (try simp only [natc, getI_gi, at2_0, at2_1]); (try dsimp only [Ty.den]); try simp only [natc] at *))
    all_goals ((repeat' (first | apply And.intro | intro _)) <;> first | omega | (simp at *; done) | grind)
theorem gi_mx {l : List Int} {k : Int} {a : Int} (h0 : 0 ≤ k) (h1 : k < (l.length : Int)) : (l.take (k + 1).toNat).foldl mx a = mx ((l.take k.toNat).foldl mx a) (gi l k) := by
  rw [take_gi h0 h1, List.foldl_append]; rfl
theorem sp_diameter (L : List (List Int)) (l : List (Int × Int)) (hL : L.length ≤ 1048576) (hl : l.length ≤ 1048576) (hm : ∀ s ∈ L, s.length ≤ 1048576) : Spec2 Try.prog 39 [.agg (.pr (.sl (.sl .int)) (.sl (.pr .int .int))) fun _ => (L, l)] [] [.int fun _ => if spaceOk L l = true then diam L l L.length else 0, .bool fun _ => spaceOk L l] [] := by
  cases hb : spaceOk L l with
  | false =>
    refine fnS [] [2, 3] Try.func39 rfl (by decide) rfl (by decide) (by kernel_rfl) rfl (by simp [Try.ntmps39]) ?_
    cbv
    ((first | refine call_q (sp_space L l hL hl hm) (by cbv) ?_ | refine call_pure (sp_space L l hL hl hm) (by cbv) ?_); cbv; ((try simp only [IfP_iff, and_true, true_and, decide_eq_true_eq, decide_eq_false_iff_not]); (try simp only [natc, getI_gi, at2_0, at2_1]); (try dsimp only [Ty.den]); (try simp only [natc] at *); (repeat' (first | apply And.intro | intro _))))
    all_goals (try (simp only [IfP_iff, EqU_iff, Obl_iff, and_true, true_and, inI_iff, decide_eq_true_eq, decide_eq_false_iff_not]; (try simp only [natc, getI_gi, at2_0, at2_1]); (try dsimp only [Ty.den]); try simp only [natc] at *))
    all_goals (first | omega | (simp [hb]; done) | (exfalso; grind) | skip)
  | true =>
    have hp := (space_parts hb).2.2.2
    obtain ⟨n1, n2, n3⟩ := near_ok hp
    have hs : ∀ i : Int, 0 ≤ i → i < L.length → Spec2 Try.prog 70 [.sl (.sl .int) fun _ => nearR l L.length, .int fun _ => i] [] [.ref 0] [some (.row 3 .int fun _ => distR L l i)] := fun i h0 h1 => sp_spread (nearR l L.length) i h0 (by omega) (by omega) n2 (fun r hr => Nat.le_trans (n3 r hr) hl)
    simp only [if_true]
    refine fnS [] [2, 3] Try.func39 rfl (by decide) rfl (by decide) (by kernel_rfl) rfl (by simp [Try.ntmps39]) ?_
    cbv
    repeat' (first | ((first | refine call_q (sp_space L l hL hl hm) (by cbv) ?_ | refine call_pure (sp_space L l hL hl hm) (by cbv) ?_); cbv; ((try simp only [IfP_iff, and_true, true_and, decide_eq_true_eq, decide_eq_false_iff_not]); (try simp only [natc, getI_gi, at2_0, at2_1]); (try dsimp only [Ty.den]); (try simp only [natc] at *); (repeat' (first | apply And.intro | intro _)))) | ((first | refine call_q (sp_lists L l hL hl hp) (by cbv) ?_ | refine call_pure (sp_lists L l hL hl hp) (by cbv) ?_); cbv; ((try simp only [IfP_iff, and_true, true_and, decide_eq_true_eq, decide_eq_false_iff_not]); (try simp only [natc, getI_gi, at2_0, at2_1]); (try dsimp only [Ty.den]); (try simp only [natc] at *); (repeat' (first | apply And.intro | intro _)))))
    rotate_right 1
    · refine loopP (by kernel_rfl) (fun k : Int => 0 ≤ k ∧ k ≤ L.length) (fun k => [(6, .int fun _ => k), (4, .int fun _ => diam L l k.toNat)]) (fun _ => []) (fun k => (L.length - k).toNat) (· + 1) 0 (by simp) ?_ ?_
      · cbv
        (simp only [IfP_iff, EqU_iff, Obl_iff, and_true, true_and, inI_iff, decide_eq_true_eq, decide_eq_false_iff_not]; (try simp only [natc, getI_gi, at2_0, at2_1]); (try dsimp only [Ty.den]); try simp only [natc] at *)
        simp [diam]
      · intro k hk
        have d1 := dist_ok (i := k) hp hk.1
        have d2 := diam_next (L := L) (l := l) hk.1
        have d3 : ¬ k < (L.length : Int) → diam L l k.toNat = diam L l L.length := fun a => by rw [show k.toNat = L.length by omega]
        have d4 : k < (L.length : Int) → (distR L l k).foldl mx (diam L l k.toNat) = diam L l (k + 1).toNat := fun a => by rw [d2, fold_max]; intro e; have := (d1 a).1; rw [e] at this; simp at this; omega
        cbv
        ((try simp only [IfP_iff, and_true, true_and, decide_eq_true_eq, decide_eq_false_iff_not]); (try simp only [natc, getI_gi, at2_0, at2_1]); (try dsimp only [Ty.den]); (try simp only [natc] at *); (repeat' (first | apply And.intro | intro _)))
        repeat' (first | ((first | refine call_q (hs k hk.1 (by omega)) (by cbv) ?_ | refine call_pure (hs k hk.1 (by omega)) (by cbv) ?_); cbv; ((try simp only [IfP_iff, and_true, true_and, decide_eq_true_eq, decide_eq_false_iff_not]); (try simp only [natc, getI_gi, at2_0, at2_1]); (try dsimp only [Ty.den]); (try simp only [natc] at *); (repeat' (first | apply And.intro | intro _)))))
        · have hk2 : k < (L.length : Int) := by omega
          have e3 := d4 hk2
          have e4 : (distR L l k).length ≤ 1048576 := by rw [(d1 hk2).1]; exact hL
          refine loopP (by kernel_rfl) (fun j : Int => 0 ≤ j ∧ j ≤ (distR L l k).length) (fun j => [(8, .int fun _ => j), (4, .int fun _ => ((distR L l k).take j.toNat).foldl mx (diam L l k.toNat))]) (fun _ => []) (fun j => ((distR L l k).length - j).toNat) (· + 1) 0 (by simp) ?_ ?_
          · cbv
            (simp only [IfP_iff, EqU_iff, Obl_iff, and_true, true_and, inI_iff, decide_eq_true_eq, decide_eq_false_iff_not]; (try simp only [natc, getI_gi, at2_0, at2_1]); (try dsimp only [Ty.den]); try simp only [natc] at *)
            simp
          · intro j hj
            have e1 := gi_mx (l := distR L l k) (k := j) (a := diam L l k.toNat) hj.1
            have e2 := take_all (l := distR L l k) (i := j)
            clear d1 d2 d3 d4
            cbv
            ((try simp only [IfP_iff, and_true, true_and, decide_eq_true_eq, decide_eq_false_iff_not]); (try simp only [natc, getI_gi, at2_0, at2_1]); (try dsimp only [Ty.den]); (try simp only [natc] at *); (repeat' (first | apply And.intro | intro _)))
            repeat' (first | ((first | refine call_q (sp_most _ _) (by cbv) ?_ | refine call_pure (sp_most _ _) (by cbv) ?_); cbv; ((try simp only [IfP_iff, and_true, true_and, decide_eq_true_eq, decide_eq_false_iff_not]); (try simp only [natc, getI_gi, at2_0, at2_1]); (try dsimp only [Ty.den]); (try simp only [natc] at *); (repeat' (first | apply And.intro | intro _)))))
            all_goals (try (simp only [IfP_iff, EqU_iff, Obl_iff, and_true, true_and, inI_iff, decide_eq_true_eq, decide_eq_false_iff_not]; (try simp only [natc, getI_gi, at2_0, at2_1]); (try dsimp only [Ty.den]); try simp only [natc] at *))
            all_goals ((repeat' (first | apply And.intro | intro _)) <;> first | omega | (rw [e1 (by assumption)]; done) | (rw [e2 (by assumption), e3]; done) | grind)
        all_goals (try (simp only [IfP_iff, EqU_iff, Obl_iff, and_true, true_and, inI_iff, decide_eq_true_eq, decide_eq_false_iff_not]; (try simp only [natc, getI_gi, at2_0, at2_1]); (try dsimp only [Ty.den]); try simp only [natc] at *))
        all_goals ((repeat' (first | apply And.intro | intro _)) <;> first | omega | (simp only [List.length_append, List.length_cons, List.length_nil]; omega) | grind)
    all_goals (try (simp only [IfP_iff, EqU_iff, Obl_iff, and_true, true_and, inI_iff, decide_eq_true_eq, decide_eq_false_iff_not]; (try simp only [natc, getI_gi, at2_0, at2_1]); (try dsimp only [Ty.den]); try simp only [natc] at *))
    all_goals ((repeat' (first | apply And.intro | intro _)) <;> first | omega | (simp at *; done) | grind)
end Go.Proofs.Ytemdajfcfmefnaa.M

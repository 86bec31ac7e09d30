/- Lists of steps, as the specification makes them; places without steps. -/
import Derived.Test.YtemdajfcfmefnaaStQ
import Derived.Test.YtemdajfcfmefnaaQg
namespace Go.Proofs.Ytemdajfcfmefnaa.M
open Go.RowKit Abs
set_option linter.unusedSimpArgs false
set_option linter.unusedVariables false
set_option maxRecDepth 100000
set_option maxHeartbeats 4000000
def putB (L : List (List Int)) (e : Int × Int) : List (List Int) := setI L e.2 (getR .int L e.2 ++ [e.1])
def putA (L : List (List Int)) (e : Int × Int) : List (List Int) := setI L e.1 (getR .int L e.1 ++ [e.2])
def foldB (m : List (Int × Int)) (n : Int) : List (List Int) := m.foldl putB (List.replicate n.toNat [])
def foldA (m : List (Int × Int)) (L : List (List Int)) : List (List Int) := m.foldl putA L
def listsR (m : List (Int × Int)) (n : Int) : List (List Int) := foldA m (foldB m n)
theorem foldA_len : ∀ (m : List (Int × Int)) (L : List (List Int)), (foldA m L).length = L.length
  | [], L => rfl
  | e :: m, L => by unfold foldA; rw [List.foldl_cons]; exact (foldA_len m (putA L e)).trans (setI_len ..)
theorem foldB_len' : ∀ (m : List (Int × Int)) (L : List (List Int)), (m.foldl putB L).length = L.length
  | [], L => rfl
  | e :: m, L => by rw [List.foldl_cons]; exact (foldB_len' m (putB L e)).trans (setI_len ..)
theorem foldB_len (m : List (Int × Int)) (n : Int) : (foldB m n).length = n.toNat := by unfold foldB; rw [foldB_len']; simp
theorem foldB_next {m : List (Int × Int)} {n k : Int} (h0 : 0 ≤ k) (h1 : k < (m.length : Int)) : foldB (m.take (k + 1).toNat) n = putB (foldB (m.take k.toNat) n) (getI (.pr .int .int) m k) := by
  unfold foldB; rw [take_getI (t := (.pr .int .int)) h0 h1, List.foldl_append]; rfl
theorem foldA_next {m : List (Int × Int)} {L : List (List Int)} {k : Int} (h0 : 0 ≤ k) (h1 : k < (m.length : Int)) : foldA (m.take (k + 1).toNat) L = putA (foldA (m.take k.toNat) L) (getI (.pr .int .int) m k) := by
  unfold foldA; rw [take_getI (t := (.pr .int .int)) h0 h1, List.foldl_append]; rfl
def lessV (v : Int) (m : List (Int × Int)) : List Int := m.filterMap fun e => if e.2 = v then some e.1 else none
def moreV (v : Int) (m : List (Int × Int)) : List Int := m.filterMap fun e => if e.1 = v then some e.2 else none
theorem foldA_row {v : Int} (h4 : 0 ≤ v) : ∀ (m : List (Int × Int)) (L : List (List Int)), (∀ e ∈ m, 0 ≤ e.1 ∧ e.1 < L.length) → getR .int (foldA m L) v = getR .int L v ++ moreV v m
  | [], L, _ => by simp [foldA, moreV]
  | e :: m, L, h => by
    obtain ⟨a, b⟩ := h e (by simp)
    have ih := foldA_row h4 m (putA L e) fun x hx => by rw [show (putA L e).length = L.length from setI_len ..]; exact h x (by simp [hx])
    unfold foldA at ih ⊢
    rw [List.foldl_cons, ih]
    unfold putA moreV
    rw [get_setI a b h4, List.filterMap_cons]
    by_cases hv : v = e.1
    · subst hv; simp
    · simp [hv, Ne.symm hv]
theorem foldB_row' {v : Int} (h4 : 0 ≤ v) : ∀ (m : List (Int × Int)) (L : List (List Int)), (∀ e ∈ m, 0 ≤ e.2 ∧ e.2 < L.length) → getR .int (m.foldl putB L) v = getR .int L v ++ lessV v m
  | [], L, _ => by simp [lessV]
  | e :: m, L, h => by
    obtain ⟨a, b⟩ := h e (by simp)
    have ih := foldB_row' h4 m (putB L e) fun x hx => by rw [show (putB L e).length = L.length from setI_len ..]; exact h x (by simp [hx])
    rw [List.foldl_cons, ih]
    unfold putB lessV
    rw [get_setI a b h4, List.filterMap_cons]
    by_cases hv : v = e.2
    · subst hv; simp
    · simp [hv, Ne.symm hv]
theorem foldB_row {v n : Int} (h4 : 0 ≤ v) {m : List (Int × Int)} (h : ∀ e ∈ m, 0 ≤ e.2 ∧ e.2 < n) : getR .int (foldB m n) v = lessV v m := by
  unfold foldB
  rw [foldB_row' h4 m _ fun e he => by have := h e he; simp; omega]
  unfold getR
  rw [List.getD_eq_getElem?_getD]
  by_cases hv : v.toNat < n.toNat
  · rw [List.getElem?_replicate_of_lt hv]; rfl
  · rw [List.getElem?_eq_none (by simp; omega)]; rfl
theorem lessV_len (v : Int) (m : List (Int × Int)) : (lessV v m).length ≤ m.length := List.length_filterMap_le _ _
theorem moreV_len (v : Int) (m : List (Int × Int)) : (moreV v m).length ≤ m.length := List.length_filterMap_le _ _
theorem rowV_sorted {n v : Int} {l : List (Int × Int)} (h : pairsOk l n = true) : (rowV v l).Pairwise (· < ·) := by
  obtain ⟨h2, h3⟩ := pairs_edges h
  unfold rowV
  rw [List.pairwise_filterMap]
  refine List.Pairwise.imp_of_mem ?_ h3
  intro p q hp hq hpq a ha b hb
  have := h2 p hp
  have := h2 q hq
  simp only [edgeLt, Bool.or_eq_true, Bool.and_eq_true, decide_eq_true_eq] at hpq
  split at ha <;> split at hb <;> (try split at ha) <;> (try split at hb) <;> simp only [Option.some.injEq, reduceCtorEq] at ha hb <;> omega
theorem lists_row {n v : Int} {l : List (Int × Int)} (h : pairsOk l n = true) (hn : 0 ≤ n) (hv : 0 ≤ v) : getR .int (listsR l n) v = rowV v l := by
  obtain ⟨h2, h3⟩ := pairs_edges h
  unfold listsR
  rw [foldA_row hv l _ fun e he => by rw [foldB_len]; have := h2 e he; omega, foldB_row hv fun e he => by have := h2 e he; omega]
  refine sorted_eq ?_ (rowV_sorted h) fun a => ?_
  · rw [List.pairwise_append]
    refine ⟨?_, ?_, fun a ha b hb => ?_⟩
    · unfold lessV
      rw [List.pairwise_filterMap]
      refine List.Pairwise.imp_of_mem ?_ h3
      intro p q hp hq hpq a ha b hb
      simp only [edgeLt, Bool.or_eq_true, Bool.and_eq_true, decide_eq_true_eq] at hpq
      split at ha <;> split at hb <;> simp only [Option.some.injEq, reduceCtorEq] at ha hb <;> omega
    · unfold moreV
      rw [List.pairwise_filterMap]
      refine List.Pairwise.imp_of_mem ?_ h3
      intro p q hp hq hpq a ha b hb
      simp only [edgeLt, Bool.or_eq_true, Bool.and_eq_true, decide_eq_true_eq] at hpq
      split at ha <;> split at hb <;> simp only [Option.some.injEq, reduceCtorEq] at ha hb <;> omega
    · simp only [lessV, moreV, List.mem_filterMap] at ha hb
      obtain ⟨p, hp, ha⟩ := ha
      obtain ⟨q, hq, hb⟩ := hb
      have := h2 p hp
      have := h2 q hq
      split at ha <;> split at hb <;> simp only [Option.some.injEq, reduceCtorEq] at ha hb <;> omega
  · simp only [lessV, moreV, rowV, List.mem_append, List.mem_filterMap]
    constructor
    · rintro (⟨e, he, ha⟩ | ⟨e, he, ha⟩) <;> (have := h2 e he; refine ⟨e, he, ?_⟩; split at ha <;> simp only [Option.some.injEq, reduceCtorEq] at ha)
      · rename_i hx; rw [if_pos hx, ha]
      · rename_i hx; rw [if_neg (by omega), if_pos hx, ha]
    · rintro ⟨e, he, ha⟩
      split at ha
      · rename_i hx; exact .inl ⟨e, he, by rw [if_pos hx]; exact ha⟩
      · split at ha
        · rename_i hx; exact .inr ⟨e, he, by rw [if_pos hx]; exact ha⟩
        · cases ha
theorem listsR_len (m : List (Int × Int)) (n : Int) : (listsR m n).length = n.toNat := by unfold listsR; rw [foldA_len, foldB_len]
theorem rows_ext {A B : List (List Int)} (hl : A.length = B.length) (h : ∀ v : Int, 0 ≤ v → v < A.length → getR .int A v = getR .int B v) : A = B := by
  apply List.ext_getElem hl
  intro i h1 h2
  have h3 := h i (by omega) (by omega)
  have a := getR_get (t := .int) (l := A) (i := (i : Int)) (by omega) (by omega)
  have b := getR_get (t := .int) (l := B) (i := (i : Int)) (by omega) (by omega)
  simp only [Int.toNat_natCast] at a b
  rw [(List.getElem?_eq_some_iff.1 a).2, (List.getElem?_eq_some_iff.1 b).2, h3]
theorem lists_near {n : Int} {l : List (Int × Int)} (h : pairsOk l n = true) (hn : 0 ≤ n) : listsR l n = nearR l n :=
  rows_ext (by rw [listsR_len, nearR_len]) fun v h0 _ => by rw [lists_row h hn h0, nearR_row h0 (pairs_edges h).1]
theorem sp_lists (L : List (List Int)) (l : List (Int × Int)) (hL : L.length ≤ 1048576) (hl : l.length ≤ 1048576) (hp : pairsOk l L.length = true) :
    Spec2 Try.prog 69 [.agg (.pr (.sl (.sl .int)) (.sl (.pr .int .int))) fun _ => (L, l)] [] [.ref 0] [some (.rows 26 3 .int fun _ => nearR l L.length)] := by
  rw [← lists_near hp (by omega)]
  have hg := (pairs_edges hp).1
  have h2 : ∀ k : Int, 0 ≤ k → k < l.length → 0 ≤ (getI (.pr .int .int) l k).1 ∧ (getI (.pr .int .int) l k).1 < (getI (.pr .int .int) l k).2 ∧ (getI (.pr .int .int) l k).2 < L.length := fun k a b => hg _ (List.mem_of_getElem? (getI_get (t := (.pr .int .int)) a b))
  refine fnS [1] [2] Try.func69 rfl (by decide) rfl (by decide) (by kernel_rfl) rfl (by simp [Try.ntmps69]) ?_
  cbv
  ((try simp only [IfP_iff, and_true, true_and, decide_eq_true_eq, decide_eq_false_iff_not]); (try simp only [natc, getI_gi, at2_0, at2_1]); (try dsimp only [Ty.den]); (try simp only [natc] at *); (repeat' (first | apply And.intro | intro _)))
  · (simp only [IfP_iff, EqU_iff, Obl_iff, and_true, true_and, inI_iff, decide_eq_true_eq, decide_eq_false_iff_not]; (try simp only [natc, getI_gi, at2_0, at2_1]); (try dsimp only [Ty.den]); try simp only [natc] at *)
    omega
  refine loopP (by kernel_rfl) (fun k : Int => 0 ≤ k ∧ k ≤ l.length) (fun k => [(4, .int fun _ => k)]) (fun k => [(1, some (.rows 26 3 .int fun _ => foldB (l.take k.toNat) L.length))]) (fun k => (l.length - k).toNat) (· + 1) 0 (by simp) ?_ ?_
  · cbv
    (simp only [IfP_iff, EqU_iff, Obl_iff, and_true, true_and, inI_iff, decide_eq_true_eq, decide_eq_false_iff_not]; (try simp only [natc, getI_gi, at2_0, at2_1]); (try dsimp only [Ty.den]); try simp only [natc] at *)
    simp [foldB]
  · intro k hk
    have h2 := h2 k
    have h3 := foldB_len (l.take k.toNat) L.length
    have h4 := foldB_next (m := l) (n := L.length) (k := k)
    have h5 := take_all (l := l) (i := k)
    have h6 : ∀ v : Int, 0 ≤ v → (getR .int (foldB (l.take k.toNat) L.length) v).length ≤ 1048576 := fun v hv => by
      rw [foldB_row hv fun e he => ⟨by have := hg e (List.mem_of_mem_take he); omega, (hg e (List.mem_of_mem_take he)).2.2⟩]
      have := lessV_len v (l.take k.toNat)
      rw [List.length_take] at this
      omega
    cbv
    ((try simp only [IfP_iff, and_true, true_and, decide_eq_true_eq, decide_eq_false_iff_not]); (try simp only [natc, getI_gi, at2_0, at2_1]); (try dsimp only [Ty.den]); (try simp only [natc] at *); (repeat' (first | apply And.intro | intro _)))
    rotate_right 1
    · refine loopP (by kernel_rfl) (fun j : Int => 0 ≤ j ∧ j ≤ l.length) (fun j => [(7, .int fun _ => j)]) (fun j => [(1, some (.rows 26 3 .int fun _ => foldA (l.take j.toNat) (foldB l L.length)))]) (fun j => (l.length - j).toNat) (· + 1) 0 (by simp) ?_ ?_
      · cbv
        (simp only [IfP_iff, EqU_iff, Obl_iff, and_true, true_and, inI_iff, decide_eq_true_eq, decide_eq_false_iff_not]; (try simp only [natc, getI_gi, at2_0, at2_1]); (try dsimp only [Ty.den]); try simp only [natc] at *)
        simp only [foldA]
        have h5 := h5 (by assumption)
        simp [h5]
      · intro j hj
        have g2 : 0 ≤ j → j < l.length → 0 ≤ (getI (.pr .int .int) l j).1 ∧ (getI (.pr .int .int) l j).1 < (getI (.pr .int .int) l j).2 ∧ (getI (.pr .int .int) l j).2 < L.length := fun a b => hg _ (List.mem_of_getElem? (getI_get (t := (.pr .int .int)) a b))
        have g3 : (foldA (l.take j.toNat) (foldB l L.length)).length = L.length := by rw [foldA_len, foldB_len]; omega
        have g4 := foldA_next (m := l) (L := foldB l L.length) (k := j)
        have g5 := take_all (l := l) (i := j)
        have g6 : ∀ v : Int, 0 ≤ v → (getR .int (foldA (l.take j.toNat) (foldB l L.length)) v).length ≤ 2097152 := fun v hv => by
          rw [foldA_row hv _ _ fun e he => by rw [foldB_len]; have := hg e (List.mem_of_mem_take he); omega, foldB_row hv fun e he => by have := hg e he; omega]
          have a1 := lessV_len v l
          have a2 := moreV_len v (l.take j.toNat)
          rw [List.length_take] at a2
          rw [List.length_append]
          omega
        have g7 : listsR l L.length = foldA l (foldB l L.length) := rfl
        cbv
        ((try simp only [IfP_iff, and_true, true_and, decide_eq_true_eq, decide_eq_false_iff_not]); (try simp only [natc, getI_gi, at2_0, at2_1]); (try dsimp only [Ty.den]); (try simp only [natc] at *); (repeat' (first | apply And.intro | intro _)))
        all_goals (try (simp only [IfP_iff, EqU_iff, Obl_iff, and_true, true_and, inI_iff, decide_eq_true_eq, decide_eq_false_iff_not]; (try simp only [natc, getI_gi, at2_0, at2_1]); (try dsimp only [Ty.den]); try simp only [natc] at *))
        all_goals ((repeat' (first | apply And.intro | intro _)) <;> first | omega | (simp only [putA] at g4; grind))
    all_goals (try (simp only [IfP_iff, EqU_iff, Obl_iff, and_true, true_and, inI_iff, decide_eq_true_eq, decide_eq_false_iff_not]; (try simp only [natc, getI_gi, at2_0, at2_1]); (try dsimp only [Ty.den]); try simp only [natc] at *))
    all_goals ((repeat' (first | apply And.intro | intro _)) <;> first | omega | (simp only [putB] at h4; grind))
def frzn (R : List (List Int)) (k : Nat) : List Int := ((List.range k).map Int.ofNat).filter fun v => decide ((getR .int R v).length = 0)
theorem frzn_next {R : List (List Int)} {k : Int} (h0 : 0 ≤ k) : frzn R (k + 1).toNat = frzn R k.toNat ++ if (getR .int R k).length = 0 then [k] else [] := by
  have e : (k + 1).toNat = k.toNat + 1 := by omega
  unfold frzn
  rw [e, List.range_succ, List.map_append, List.filter_append]
  congr 1
  have e2 : Int.ofNat k.toNat = k := by simp; omega
  simp only [List.map_cons, List.map_nil, e2]
  by_cases h : (getR .int R k).length = 0
  · rw [List.filter_cons_of_pos (by simpa using h), if_pos h]; rfl
  · rw [List.filter_cons_of_neg (by simpa using h), if_neg h]; rfl
theorem frzn_len {R : List (List Int)} {k : Int} (h0 : 0 ≤ k) : ((frzn R k.toNat).length : Int) ≤ k := by
  unfold frzn
  have := List.length_filter_le (fun v => decide ((getR .int R v).length = 0)) ((List.range k.toNat).map Int.ofNat)
  simp only [List.length_map, List.length_range] at this
  omega
theorem sp_frozen (L : List (List Int)) (l : List (Int × Int)) (hL : L.length ≤ 1048576) (hl : l.length ≤ 1048576) (hm : ∀ s ∈ L, s.length ≤ 1048576) : Spec2 Try.prog 45 [.agg (.pr (.sl (.sl .int)) (.sl (.pr .int .int))) fun _ => (L, l)] [] [.ref 0, .bool fun _ => spaceOk L l] [some (.row 3 .int fun _ => if spaceOk L l = true then frzn (nearR l L.length) L.length else [])] := by
  refine fnS [1] [2, 3] Try.func45 rfl (by decide) rfl (by decide) (by kernel_rfl) rfl (by simp [Try.ntmps45]) ?_
  cbv
  ((first | refine call_q (sp_space L l hL hl hm) (by cbv) ?_ | refine call_pure (sp_space L l hL hl hm) (by cbv) ?_); cbv; ((try simp only [IfP_iff, and_true, true_and, decide_eq_true_eq, decide_eq_false_iff_not]); (try simp only [natc, getI_gi, at2_0, at2_1]); (try dsimp only [Ty.den]); (try simp only [natc] at *); (repeat' (first | apply And.intro | intro _))))
  rotate_right 1
  · have hs : spaceOk L l = true := by first | assumption | (simp at *; assumption)
    simp only [hs, if_true]
    ((first | refine call_q (sp_lists L l hL hl (space_parts hs).2.2.2) (by cbv) ?_ | refine call_pure (sp_lists L l hL hl (space_parts hs).2.2.2) (by cbv) ?_); cbv; ((try simp only [IfP_iff, and_true, true_and, decide_eq_true_eq, decide_eq_false_iff_not]); (try simp only [natc, getI_gi, at2_0, at2_1]); (try dsimp only [Ty.den]); (try simp only [natc] at *); (repeat' (first | apply And.intro | intro _))))
    refine loopP (by kernel_rfl) (fun k : Int => 0 ≤ k ∧ k ≤ L.length) (fun k => [(6, .int fun _ => k), (4, .ref 1), (7, .junk)]) (fun k => [(1, some (.row 3 .int fun _ => frzn (nearR l L.length) k.toNat))]) (fun k => (L.length - k).toNat) (· + 1) 0 (by simp) ?_ ?_
    · cbv
      (simp only [IfP_iff, EqU_iff, Obl_iff, and_true, true_and, inI_iff, decide_eq_true_eq, decide_eq_false_iff_not]; (try simp only [natc, getI_gi, at2_0, at2_1]); (try dsimp only [Ty.den]); try simp only [natc] at *)
      simp [frzn]
    · intro k hk
      have h1 := frzn_next (R := nearR l L.length) (k := k)
      have h2 := frzn_len (R := nearR l L.length) (k := k)
      have h3 := nearR_len l L.length
      have h4 : ¬ k < (L.length : Int) → k.toNat = L.length := by omega
      cbv
      ((try simp only [IfP_iff, and_true, true_and, decide_eq_true_eq, decide_eq_false_iff_not]); (try simp only [natc, getI_gi, at2_0, at2_1]); (try dsimp only [Ty.den]); (try simp only [natc] at *); (repeat' (first | apply And.intro | intro _)))
      all_goals (try (simp only [IfP_iff, EqU_iff, Obl_iff, and_true, true_and, inI_iff, decide_eq_true_eq, decide_eq_false_iff_not]; (try simp only [natc, getI_gi, at2_0, at2_1]); (try dsimp only [Ty.den]); try simp only [natc] at *))
      all_goals ((repeat' (first | apply And.intro | intro _)) <;> first | omega | (simp only [List.length_append, List.length_cons, List.length_nil]; omega) | grind)
  all_goals (try (simp only [IfP_iff, EqU_iff, Obl_iff, and_true, true_and, inI_iff, decide_eq_true_eq, decide_eq_false_iff_not]; (try simp only [natc, getI_gi, at2_0, at2_1]); (try dsimp only [Ty.den]); try simp only [natc] at *))
  all_goals ((repeat' (first | apply And.intro | intro _)) <;> first | omega | (simp only [List.length_append, List.length_cons, List.length_nil]; omega) | grind)
theorem im_frozen (L : List (List Int)) (l : List (Int × Int)) (hL : L.length ≤ 1048576) (hl : l.length ≤ 1048576) (hm : ∀ s ∈ L, s.length ≤ 1048576) : Spec2 Try.prog 46 [.agg (.pr (.sl (.sl .int)) (.sl (.pr .int .int))) fun _ => (L, l)] [] [.ref 0, .bool fun _ => spaceOk L l] [some (.row 3 .int fun _ => if spaceOk L l = true then frzn (nearR l L.length) L.length else [])] := by
  refine fnS [1] [2, 3] Try.func46 rfl (by decide) rfl (by decide) (by kernel_rfl) rfl (by simp [Try.ntmps46]) ?_
  cbv
  ((first | refine call_q (im_space L l hL hl hm) (by cbv) ?_ | refine call_pure (im_space L l hL hl hm) (by cbv) ?_); cbv; ((try simp only [IfP_iff, and_true, true_and, decide_eq_true_eq, decide_eq_false_iff_not]); (try simp only [natc, getI_gi, at2_0, at2_1]); (try dsimp only [Ty.den]); (try simp only [natc] at *); (repeat' (first | apply And.intro | intro _))))
  rotate_right 1
  · have hs : spaceOk L l = true := by first | assumption | (simp at *; assumption)
    simp only [hs, if_true]
    ((first | refine call_q (im_stepLists L l hL hl (space_parts hs).2.2.2) (by cbv) ?_ | refine call_pure (im_stepLists L l hL hl (space_parts hs).2.2.2) (by cbv) ?_); cbv; ((try simp only [IfP_iff, and_true, true_and, decide_eq_true_eq, decide_eq_false_iff_not]); (try simp only [natc, getI_gi, at2_0, at2_1]); (try dsimp only [Ty.den]); (try simp only [natc] at *); (repeat' (first | apply And.intro | intro _))))
    refine loopP (by kernel_rfl) (fun k : Int => 0 ≤ k ∧ k ≤ L.length) (fun k => [(15, .int fun _ => k), (4, .ref 1), (11, .junk)]) (fun k => [(1, some (.row 3 .int fun _ => frzn (nearR l L.length) k.toNat))]) (fun k => (L.length - k).toNat) (· + 1) 0 (by simp) ?_ ?_
    · cbv
      (simp only [IfP_iff, EqU_iff, Obl_iff, and_true, true_and, inI_iff, decide_eq_true_eq, decide_eq_false_iff_not]; (try simp only [natc, getI_gi, at2_0, at2_1]); (try dsimp only [Ty.den]); try simp only [natc] at *)
      simp [frzn]
    · intro k hk
      have h1 := frzn_next (R := nearR l L.length) (k := k)
      have h2 := frzn_len (R := nearR l L.length) (k := k)
      have h3 := nearR_len l L.length
      have h4 : ¬ k < (L.length : Int) → k.toNat = L.length := by omega
      cbv
      ((try simp only [IfP_iff, and_true, true_and, decide_eq_true_eq, decide_eq_false_iff_not]); (try simp only [natc, getI_gi, at2_0, at2_1]); (try dsimp only [Ty.den]); (try simp only [natc] at *); (repeat' (first | apply And.intro | intro _)))
      all_goals (try (simp only [IfP_iff, EqU_iff, Obl_iff, and_true, true_and, inI_iff, decide_eq_true_eq, decide_eq_false_iff_not]; (try simp only [natc, getI_gi, at2_0, at2_1]); (try dsimp only [Ty.den]); try simp only [natc] at *))
      all_goals ((repeat' (first | apply And.intro | intro _)) <;> first | omega | (simp only [List.length_append, List.length_cons, List.length_nil]; omega) | grind)
  all_goals (try (simp only [IfP_iff, EqU_iff, Obl_iff, and_true, true_and, inI_iff, decide_eq_true_eq, decide_eq_false_iff_not]; (try simp only [natc, getI_gi, at2_0, at2_1]); (try dsimp only [Ty.den]); try simp only [natc] at *))
  all_goals ((repeat' (first | apply And.intro | intro _)) <;> first | omega | (simp only [List.length_append, List.length_cons, List.length_nil]; omega) | grind)
theorem frozen_bound {L : List (List Int)} {l : List (Int × Int)} : (if spaceOk L l = true then frzn (nearR l L.length) L.length else []).length ≤ 1048576 := by
  split
  · rename_i h
    have := (space_parts h).1
    have := frzn_len (R := nearR l L.length) (k := L.length) (by omega)
    simp only [Int.toNat_natCast] at this
    omega
  · simp
end Go.Proofs.Ytemdajfcfmefnaa.M

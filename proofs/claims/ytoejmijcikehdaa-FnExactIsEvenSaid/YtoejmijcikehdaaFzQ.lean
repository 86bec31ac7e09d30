/- Lists of steps, as the specification makes them; places without steps. -/
import Derived.Test.YtoejmijcikehdaaStQ
import Derived.Test.YtoejmijcikehdaaQg
namespace Go.Proofs.Ytoejmijcikehdaa.M
open Go.RowKit Abs
set_option linter.unusedSimpArgs false
set_option linter.unusedVariables false
set_option maxRecDepth 100000
set_option maxHeartbeats 4000000
def putB (L : List (List Int)) (e : Int × Int) : List (List Int) := setI L e.2 (getR .int L e.2 ++ [e.1])
def putA (L : List (List Int)) (e : Int × Int) : List (List Int) := setI L e.1 (getR .int L e.1 ++ [e.2])
def foldB (m : List (Int × Int)) (n : Int) : List (List Int) := m.foldl putB (List.replicate n.toNat [])
def foldA (m : List (Int × Int)) (L : List (List Int)) : List (List Int) := m.foldl putA L
def listsR (m : List (Int × Int)) (n : Int) : List (List Int) := foldA m (foldB m n)
theorem foldA_len : ∀ (m : List (Int × Int)) (L : List (List Int)), (foldA m L).length = L.length
  | [], L => rfl
  | e :: m, L => by unfold foldA; rw [List.foldl_cons]; exact (foldA_len m (putA L e)).trans (setI_len ..)
theorem foldB_len' : ∀ (m : List (Int × Int)) (L : List (List Int)), (m.foldl putB L).length = L.length
  | [], L => rfl
  | e :: m, L => by rw [List.foldl_cons]; exact (foldB_len' m (putB L e)).trans (setI_len ..)
theorem foldB_len (m : List (Int × Int)) (n : Int) : (foldB m n).length = n.toNat := by unfold foldB; rw [foldB_len']; simp
theorem foldB_next {m : List (Int × Int)} {n k : Int} (h0 : 0 ≤ k) (h1 : k < (m.length : Int)) : foldB (m.take (k + 1).toNat) n = putB (foldB (m.take k.toNat) n) (getI (.pr .int .int) m k) := by
  unfold foldB; rw [take_getI (t := (.pr .int .int)) h0 h1, List.foldl_append]; rfl
theorem foldA_next {m : List (Int × Int)} {L : List (List Int)} {k : Int} (h0 : 0 ≤ k) (h1 : k < (m.length : Int)) : foldA (m.take (k + 1).toNat) L = putA (foldA (m.take k.toNat) L) (getI (.pr .int .int) m k) := by
  unfold foldA; rw [take_getI (t := (.pr .int .int)) h0 h1, List.foldl_append]; rfl
def lessV (v : Int) (m : List (Int × Int)) : List Int := m.filterMap fun e => if e.2 = v then some e.1 else none
def moreV (v : Int) (m : List (Int × Int)) : List Int := m.filterMap fun e => if e.1 = v then some e.2 else none
theorem foldA_row {v : Int} (h4 : 0 ≤ v) : ∀ (m : List (Int × Int)) (L : List (List Int)), (∀ e ∈ m, 0 ≤ e.1 ∧ e.1 < L.length) → getR .int (foldA m L) v = getR .int L v ++ moreV v m
  | [], L, _ => by simp [foldA, moreV]
  | e :: m, L, h => by
    obtain ⟨a, b⟩ := h e (by simp)
    have ih := foldA_row h4 m (putA L e) fun x hx => by rw [show (putA L e).length = L.length from setI_len ..]; exact h x (by simp [hx])
    unfold foldA at ih ⊢
    rw [List.foldl_cons, ih]
    unfold putA moreV
    rw [get_setI a b h4, List.filterMap_cons]
    by_cases hv : v = e.1
    · subst hv; simp
    · simp [hv, Ne.symm hv]
theorem foldB_row' {v : Int} (h4 : 0 ≤ v) : ∀ (m : List (Int × Int)) (L : List (List Int)), (∀ e ∈ m, 0 ≤ e.2 ∧ e.2 < L.length) → getR .int (m.foldl putB L) v = getR .int L v ++ lessV v m
  | [], L, _ => by simp [lessV]
  | e :: m, L, h => by
    obtain ⟨a, b⟩ := h e (by simp)
    have ih := foldB_row' h4 m (putB L e) fun x hx => by rw [show (putB L e).length = L.length from setI_len ..]; exact h x (by simp [hx])
    rw [List.foldl_cons, ih]
    unfold putB lessV
    rw [get_setI a b h4, List.filterMap_cons]
    by_cases hv : v = e.2
    · subst hv; simp
    · simp [hv, Ne.symm hv]
theorem foldB_row {v n : Int} (h4 : 0 ≤ v) {m : List (Int × Int)} (h : ∀ e ∈ m, 0 ≤ e.2 ∧ e.2 < n) : getR .int (foldB m n) v = lessV v m := by
  unfold foldB
  rw [foldB_row' h4 m _ fun e he => by have := h e he; simp; omega]
  unfold getR
  rw [List.getD_eq_getElem?_getD]
  by_cases hv : v.toNat < n.toNat
  · rw [List.getElem?_replicate_of_lt hv]; rfl
  · rw [List.getElem?_eq_none (by simp; omega)]; rfl
theorem lessV_len (v : Int) (m : List (Int × Int)) : (lessV v m).length ≤ m.length := List.length_filterMap_le _ _
theorem moreV_len (v : Int) (m : List (Int × Int)) : (moreV v m).length ≤ m.length := List.length_filterMap_le _ _
theorem rowV_sorted {n v : Int} {l : List (Int × Int)} (h : pairsOk l n = true) : (rowV v l).Pairwise (· < ·) := by
  obtain ⟨h2, h3⟩ := pairs_edges h
  unfold rowV
  rw [List.pairwise_filterMap]
  refine List.Pairwise.imp_of_mem ?_ h3
  intro p q hp hq hpq a ha b hb
  have := h2 p hp
  have := h2 q hq
  simp only [edgeLt, Bool.or_eq_true, Bool.and_eq_true, decide_eq_true_eq] at hpq
  split at ha <;> split at hb <;> (try split at ha) <;> (try split at hb) <;> simp only [Option.some.injEq, reduceCtorEq] at ha hb <;> omega
theorem lists_row {n v : Int} {l : List (Int × Int)} (h : pairsOk l n = true) (hn : 0 ≤ n) (hv : 0 ≤ v) : getR .int (listsR l n) v = rowV v l := by
  obtain ⟨h2, h3⟩ := pairs_edges h
  unfold listsR
  rw [foldA_row hv l _ fun e he => by rw [foldB_len]; have := h2 e he; omega, foldB_row hv fun e he => by have := h2 e he; omega]
  refine sorted_eq ?_ (rowV_sorted h) fun a => ?_
  · rw [List.pairwise_append]
    refine ⟨?_, ?_, fun a ha b hb => ?_⟩
    · unfold lessV
      rw [List.pairwise_filterMap]
      refine List.Pairwise.imp_of_mem ?_ h3
      intro p q hp hq hpq a ha b hb
      simp only [edgeLt, Bool.or_eq_true, Bool.and_eq_true, decide_eq_true_eq] at hpq
      split at ha <;> split at hb <;> simp only [Option.some.injEq, reduceCtorEq] at ha hb <;> omega
    · unfold moreV
      rw [List.pairwise_filterMap]
      refine List.Pairwise.imp_of_mem ?_ h3
      intro p q hp hq hpq a ha b hb
      simp only [edgeLt, Bool.or_eq_true, Bool.and_eq_true, decide_eq_true_eq] at hpq
      split at ha <;> split at hb <;> simp only [Option.some.injEq, reduceCtorEq] at ha hb <;> omega
    · simp only [lessV, moreV, List.mem_filterMap] at ha hb
      obtain ⟨p, hp, ha⟩ := ha
      obtain ⟨q, hq, hb⟩ := hb
      have := h2 p hp
      have := h2 q hq
      split at ha <;> split at hb <;> simp only [Option.some.injEq, reduceCtorEq] at ha hb <;> omega
  · simp only [lessV, moreV, rowV, List.mem_append, List.mem_filterMap]
    constructor
    · rintro (⟨e, he, ha⟩ | ⟨e, he, ha⟩) <;> (have := h2 e he; refine ⟨e, he, ?_⟩; split at ha <;> simp only [Option.some.injEq, reduceCtorEq] at ha)
      · rename_i hx; rw [if_pos hx, ha]
      · rename_i hx; rw [if_neg (by omega), if_pos hx, ha]
    · rintro ⟨e, he, ha⟩
      split at ha
      · rename_i hx; exact .inl ⟨e, he, by rw [if_pos hx]; exact ha⟩
      · split at ha
        · rename_i hx; exact .inr ⟨e, he, by rw [if_pos hx]; exact ha⟩
        · cases ha
theorem listsR_len (m : List (Int × Int)) (n : Int) : (listsR m n).length = n.toNat := by unfold listsR; rw [foldA_len, foldB_len]
theorem rows_ext {A B : List (List Int)} (hl : A.length = B.length) (h : ∀ v : Int, 0 ≤ v → v < A.length → getR .int A v = getR .int B v) : A = B := by
  apply List.ext_getElem hl
  intro i h1 h2
  have h3 := h i (by omega) (by omega)
  have a := getR_get (t := .int) (l := A) (i := (i : Int)) (by omega) (by omega)
  have b := getR_get (t := .int) (l := B) (i := (i : Int)) (by omega) (by omega)
  simp only [Int.toNat_natCast] at a b
  rw [(List.getElem?_eq_some_iff.1 a).2, (List.getElem?_eq_some_iff.1 b).2, h3]
theorem lists_near {n : Int} {l : List (Int × Int)} (h : pairsOk l n = true) (hn : 0 ≤ n) : listsR l n = nearR l n :=
  rows_ext (by rw [listsR_len, nearR_len]) fun v h0 _ => by rw [lists_row h hn h0, nearR_row h0 (pairs_edges h).1]
def frzn (R : List (List Int)) (k : Nat) : List Int := ((List.range k).map Int.ofNat).filter fun v => decide ((getR .int R v).length = 0)
theorem frzn_next {R : List (List Int)} {k : Int} (h0 : 0 ≤ k) : frzn R (k + 1).toNat = frzn R k.toNat ++ if (getR .int R k).length = 0 then [k] else [] := by
  have e : (k + 1).toNat = k.toNat + 1 := by omega
  unfold frzn
  rw [e, List.range_succ, List.map_append, List.filter_append]
  congr 1
  have e2 : Int.ofNat k.toNat = k := by simp; omega
  simp only [List.map_cons, List.map_nil, e2]
  by_cases h : (getR .int R k).length = 0
  · rw [List.filter_cons_of_pos (by simpa using h), if_pos h]; rfl
  · rw [List.filter_cons_of_neg (by simpa using h), if_neg h]; rfl
theorem frzn_len {R : List (List Int)} {k : Int} (h0 : 0 ≤ k) : ((frzn R k.toNat).length : Int) ≤ k := by
  unfold frzn
  have := List.length_filter_le (fun v => decide ((getR .int R v).length = 0)) ((List.range k.toNat).map Int.ofNat)
  simp only [List.length_map, List.length_range] at this
  omega
theorem frozen_bound {L : List (List Int)} {l : List (Int × Int)} : (if spaceOk L l = true then frzn (nearR l L.length) L.length else []).length ≤ 1048576 := by
  split
  · rename_i h
    have := (space_parts h).1
    have := frzn_len (R := nearR l L.length) (k := L.length) (by omega)
    simp only [Int.toNat_natCast] at this
    omega
  · simp
end Go.Proofs.Ytoejmijcikehdaa.M

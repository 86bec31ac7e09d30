/- Numbers of shortest ways, on both sides. -/
import Derived.Test.YtemdajfcfmefnaaCsQ
import Derived.Test.YtemdajfcfmefnaaDmQ
namespace Go.Proofs.Ytemdajfcfmefnaa.M
open Go.RowKit Abs
set_option linter.unusedSimpArgs false
set_option linter.unusedVariables false
set_option maxRecDepth 100000
set_option maxHeartbeats 4000000
theorem inAll_two {n i j : Int} {m : Nat} (hm : (m : Int) = n) : inAll m [i, j] = ((decide (0 ≤ i) && decide (i < n)) && (decide (0 ≤ j) && decide (j < n))) := by
  subst hm
  unfold inAll allI
  rw [show [i, j].length = 2 from rfl, show List.range 2 = [0, 1] from rfl]
  simp [getI]
theorem dst_space {L : List (List Int)} {l : List (Int × Int)} {i : Int} (hp : pairsOk l L.length = true) (h0 : 0 ≤ i) (h1 : i < L.length) : Dst (nearR l L.length) (distR L l i) i := by
  obtain ⟨n1, n2, n3⟩ := near_ok hp
  refine ⟨by rw [n1]; exact ⟨h0, h1⟩, by rw [n1]; exact dist_zero hp h0 h1, fun u v u0 u1 u2 hv => by rw [n1] at u1 ⊢; exact dist_step hp h0 h1 u0 u1 u2 hv, fun u => ?_⟩
  by_cases c : 0 ≤ u
  · rw [nearR_row c (pairs_edges hp).1]
    exact (rowV_sorted hp).imp fun h => Int.ne_of_lt h
  · unfold getR
    have : u.toNat = 0 := by omega
    have h2 := rowV_sorted (v := 0) hp
    rw [← nearR_row (Int.le_refl 0) (pairs_edges hp).1] at h2
    unfold getR at h2
    rw [this]
    exact h2.imp fun h => Int.ne_of_lt h
theorem ord_queue {L : List (List Int)} {l : List (Int × Int)} {i : Int} (hp : pairsOk l L.length = true) (h0 : 0 ≤ i) (h1 : i < L.length) : Ord (nearR l L.length) (distR L l i) (queR L l i) ∧ ∀ w : Int, 0 ≤ w → w < L.length → 0 ≤ gi (distR L l i) w → w ∈ queR L l i := by
  obtain ⟨n1, n2, n3⟩ := near_ok hp
  have c := search_core (q := fun _ => true) h0 (by omega) n2
  have o := search_inv (q := fun _ => true) h0 (by omega) n2
  exact ⟨⟨c.nd, fun u hu => o.mem u hu, c.mono, fun u hu w w0 w1 w2 _ => c.all w w0 w1 w2⟩, fun w w0 w1 w2 => c.all w w0 (by omega) w2⟩
def okC (M : Int) (n : Nat) (C : List Int) : Prop := C.length = n ∧ ∀ v : Int, 0 ≤ gi C v ∧ gi C v ≤ M
theorem okC_hit {M : Int} {n : Nat} {D C : List Int} {u b : Int} (hM : 0 ≤ M) (h : okC M n C) : okC M n (hitC M D u C b) := by
  refine ⟨hitC_len.trans h.1, fun v => ?_⟩
  unfold hitC
  have := h.2 v
  have := h.2 b
  have := h.2 u
  split
  · rw [gi_set]; split <;> omega
  · omega
theorem okC_row {M : Int} {n : Nat} {D : List Int} {u : Int} (hM : 0 ≤ M) : ∀ {r C : List Int}, okC M n C → okC M n (r.foldl (hitC M D u) C)
  | [], C, h => h
  | b :: r, C, h => by rw [List.foldl_cons]; exact okC_row hM (okC_hit hM h)
theorem okC_proc {M : Int} {n : Nat} {R : List (List Int)} {D : List Int} (hM : 0 ≤ M) : ∀ {P C : List Int}, okC M n C → okC M n (P.foldl (proc M R D) C)
  | [], C, h => h
  | u :: P, C, h => by rw [List.foldl_cons]; exact okC_proc hM (okC_row hM h)
theorem okC_start {M : Int} (hM : 1 ≤ M) (n : Nat) (i : Int) : okC M n (cstart n i) := by
  refine ⟨by simp [cstart, setI_len], fun v => ?_⟩
  unfold cstart
  rw [gi_set]
  have : gi (List.replicate n 0) v = 0 := by
    unfold gi
    rw [List.getD_eq_getElem?_getD, List.getElem?_replicate]
    split <;> rfl
  split <;> omega
def okT (L : List (List Int)) (l : List (Int × Int)) (i j : Int) : Bool := spaceOk L l && ((decide (0 ≤ i) && decide (i < L.length)) && (decide (0 ≤ j) && decide (j < L.length)))
def cntQ (L : List (List Int)) (l : List (Int × Int)) (i j : Int) : Int := gi ((queR L l i).foldl (proc 1000000 (nearR l L.length) (distR L l i)) (cstart L.length i)) j
def cq (L : List (List Int)) (l : List (Int × Int)) (i k : Int) : List Int := ((queR L l i).take k.toNat).foldl (proc 1000000 (nearR l L.length) (distR L l i)) (cstart L.length i)
theorem row_next {M : Int} {D C r : List Int} {u k : Int} (h0 : 0 ≤ k) (h1 : k < (r.length : Int)) : (r.take (k + 1).toNat).foldl (hitC M D u) C = hitC M D u ((r.take k.toNat).foldl (hitC M D u) C) (gi r k) := by
  rw [take_gi h0 h1, List.foldl_append]; rfl
theorem proc_next {M : Int} {R : List (List Int)} {D C P : List Int} {k : Int} (h0 : 0 ≤ k) (h1 : k < (P.length : Int)) : (P.take (k + 1).toNat).foldl (proc M R D) C = proc M R D ((P.take k.toNat).foldl (proc M R D) C) (gi P k) := by
  rw [take_gi h0 h1, List.foldl_append]; rfl
theorem im_count_bad (L : List (List Int)) (l : List (Int × Int)) (i j : Int) (hL : L.length ≤ 1048576) (hl : l.length ≤ 1048576) (hm : ∀ s ∈ L, s.length ≤ 1048576) (hb : okT L l i j = false) : Spec2 Try.prog 33 [.agg (.pr (.sl (.sl .int)) (.sl (.pr .int .int))) fun _ => (L, l), .int fun _ => i, .int fun _ => j] [] [.int fun _ => 0, .bool fun _ => false] [] := by
  simp only [okT] at hb
  rw [← inAll_two rfl] at hb
  refine fnS [] [6, 7] Try.func33 rfl (by decide) rfl (by decide) (by kernel_rfl) rfl (by simp [Try.ntmps33]) ?_
  cbv
  repeat' (first | ((first | refine call_q (im_hasPlaces L l [i, j] (by simp) hL hl hm) (by cbv) ?_ | refine call_pure (im_hasPlaces L l [i, j] (by simp) hL hl hm) (by cbv) ?_); cbv; ((try simp only [IfP_iff, and_true, true_and, decide_eq_true_eq, decide_eq_false_iff_not]); (try simp only [natc, at2_0, at2_1]); (try dsimp only [Ty.den]); (try simp only [natc] at *); (repeat' (first | apply And.intro | intro _)))))
  all_goals (try (simp only [IfP_iff, EqU_iff, Obl_iff, and_true, true_and, inI_iff, decide_eq_true_eq, decide_eq_false_iff_not]; (try simp only [natc, at2_0, at2_1]); (try dsimp only [Ty.den]); try simp only [natc] at *))
  all_goals (first | omega | (exfalso; grind) | skip)
end Go.Proofs.Ytemdajfcfmefnaa.M

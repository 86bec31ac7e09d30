/- The diameter, on both sides. -/
import Derived.Test.YtibiacfhlbglnaaDsQ
import Derived.Test.YtibiacfhlbglnaaQc
namespace Go.Proofs.Ytibiacfhlbglnaa.M
open Go.RowKit Abs
set_option linter.unusedSimpArgs false
set_option linter.unusedVariables false
set_option maxRecDepth 100000
set_option maxHeartbeats 4000000
def mx (a b : Int) : Int := if a < b then b else a
theorem mx_max (a b : Int) : mx a b = max a b := by unfold mx; omega
theorem sp_most (a b : Int) : Spec2 Try.prog 121 [.int fun _ => a, .int fun _ => b] [] [.int fun _ => mx a b] [] := by
  refine fnS [] [4] Try.func121 rfl (by decide) rfl (by decide) (by kernel_rfl) rfl (by simp [Try.ntmps121]) ?_
  cbv
  unfold mx
  ((try simp only [IfP_iff, and_true, true_and, decide_eq_true_eq, decide_eq_false_iff_not]); (try simp only [natc, getI_gi, at2_0, at2_1]); (try dsimp only [Ty.den]); (try simp only [natc] at *); (repeat' (first | apply And.intro | intro _)))
  all_goals (try (simp only [IfP_iff, EqU_iff, Obl_iff, and_true, true_and, inI_iff, decide_eq_true_eq, decide_eq_false_iff_not]; (try simp only [natc, getI_gi, at2_0, at2_1]); (try dsimp only [Ty.den]); try simp only [natc] at *))
  all_goals ((repeat' (first | apply And.intro | intro _)) <;> first | omega | (simp only [List.length_append, List.length_cons, List.length_nil]; omega) | grind)
theorem foldl_mx : ∀ (l : List Int) (a b : Int), l.foldl mx (mx a b) = mx a (l.foldl mx b)
  | [], a, b => rfl
  | x :: l, a, b => by
    rw [List.foldl_cons, List.foldl_cons]
    have : mx (mx a b) x = mx a (mx b x) := by simp only [mx_max]; omega
    rw [this, foldl_mx l]
theorem fold_max {l : List Int} (h : l ≠ []) (a : Int) : l.foldl mx a = mx a (Lib.maxOf l) := by
  have e : mx = max := by funext a b; exact mx_max a b
  unfold Lib.maxOf
  cases l with
  | nil => exact (h rfl).elim
  | cons x l =>
    rw [List.headD_cons, List.foldl_cons, List.foldl_cons, ← e, foldl_mx]
    congr 2
    unfold mx; simp
/-- The greatest distance from the first places. -/
def diam (L : List (List Int)) (l : List (Int × Int)) (k : Nat) : Int := (List.range k).foldl (fun (a : Int) (v : Nat) => mx a (Lib.maxOf (distR L l (v : Int)))) 0
theorem diam_next {L : List (List Int)} {l : List (Int × Int)} {k : Int} (h : 0 ≤ k) : diam L l (k + 1).toNat = mx (diam L l k.toNat) (Lib.maxOf (distR L l k)) := by
  unfold diam
  rw [show (k + 1).toNat = k.toNat + 1 by omega, List.range_succ, List.foldl_append]
  simp only [List.foldl_cons, List.foldl_nil]
  rw [Int.toNat_of_nonneg h]
theorem dist_ok {L : List (List Int)} {l : List (Int × Int)} {i : Int} (hp : pairsOk l L.length = true) (h0 : 0 ≤ i) (h1 : i < L.length) : (distR L l i).length = L.length ∧ ∀ v : Int, gi (distR L l i) v < L.length + 1 := by
  obtain ⟨n1, n2, n3⟩ := near_ok hp
  have h := search_inv (q := fun _ => true) h0 (by omega : i < (nearR l L.length).length) n2
  refine ⟨by unfold distR; rw [h.len, n1], fun v => ?_⟩
  have := h.up v
  have := h.cnt
  unfold distR
  omega
theorem gi_mx {l : List Int} {k : Int} {a : Int} (h0 : 0 ≤ k) (h1 : k < (l.length : Int)) : (l.take (k + 1).toNat).foldl mx a = mx ((l.take k.toNat).foldl mx a) (gi l k) := by
  rw [take_gi h0 h1, List.foldl_append]; rfl
end Go.Proofs.Ytibiacfhlbglnaa.M

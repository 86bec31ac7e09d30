/- The diameter, on both sides. -/
import Derived.Test.YtoejmijcikehdaaDsQ
import Derived.Test.YtoejmijcikehdaaQg
namespace Go.Proofs.Ytoejmijcikehdaa.M
open Go.RowKit Abs
set_option linter.unusedSimpArgs false
set_option linter.unusedVariables false
set_option maxRecDepth 100000
set_option maxHeartbeats 4000000
def mx (a b : Int) : Int := if a < b then b else a
theorem mx_max (a b : Int) : mx a b = max a b := by unfold mx; omega
theorem foldl_mx : ∀ (l : List Int) (a b : Int), l.foldl mx (mx a b) = mx a (l.foldl mx b)
  | [], a, b => rfl
  | x :: l, a, b => by
    rw [List.foldl_cons, List.foldl_cons]
    have : mx (mx a b) x = mx a (mx b x) := by simp only [mx_max]; omega
    rw [this, foldl_mx l]
theorem fold_max {l : List Int} (h : l ≠ []) (a : Int) : l.foldl mx a = mx a (Lib.maxOf l) := by
  have e : mx = max := by funext a b; exact mx_max a b
  unfold Lib.maxOf
  cases l with
  | nil => exact (h rfl).elim
  | cons x l =>
    rw [List.headD_cons, List.foldl_cons, List.foldl_cons, ← e, foldl_mx]
    congr 2
    unfold mx; simp
/-- The greatest distance from the first places. -/
def diam (L : List (List Int)) (l : List (Int × Int)) (k : Nat) : Int := (List.range k).foldl (fun (a : Int) (v : Nat) => mx a (Lib.maxOf (distR L l (v : Int)))) 0
theorem diam_next {L : List (List Int)} {l : List (Int × Int)} {k : Int} (h : 0 ≤ k) : diam L l (k + 1).toNat = mx (diam L l k.toNat) (Lib.maxOf (distR L l k)) := by
  unfold diam
  rw [show (k + 1).toNat = k.toNat + 1 by omega, List.range_succ, List.foldl_append]
  simp only [List.foldl_cons, List.foldl_nil]
  rw [Int.toNat_of_nonneg h]
theorem dist_ok {L : List (List Int)} {l : List (Int × Int)} {i : Int} (hp : pairsOk l L.length = true) (h0 : 0 ≤ i) (h1 : i < L.length) : (distR L l i).length = L.length ∧ ∀ v : Int, gi (distR L l i) v < L.length + 1 := by
  obtain ⟨n1, n2, n3⟩ := near_ok hp
  have h := search_inv (q := fun _ => true) h0 (by omega : i < (nearR l L.length).length) n2
  refine ⟨by unfold distR; rw [h.len, n1], fun v => ?_⟩
  have := h.up v
  have := h.cnt
  unfold distR
  omega
theorem gi_mx {l : List Int} {k : Int} {a : Int} (h0 : 0 ≤ k) (h1 : k < (l.length : Int)) : (l.take (k + 1).toNat).foldl mx a = mx ((l.take k.toNat).foldl mx a) (gi l k) := by
  rw [take_gi h0 h1, List.foldl_append]; rfl
end Go.Proofs.Ytoejmijcikehdaa.M

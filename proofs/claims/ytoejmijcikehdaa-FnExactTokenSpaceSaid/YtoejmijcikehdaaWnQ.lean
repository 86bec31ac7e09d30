/- What the law of TokenSpace asks of its result. -/
import Derived.Test.YtoejmijcikehdaaWmQ
import Derived.Test.YtoejmijcikehdaaQe
import Derived.Test.YtoejmijcikehdaaQg
namespace Go.Proofs.Ytoejmijcikehdaa.M
open Go.RowKit Abs
set_option linter.unusedSimpArgs false
set_option linter.unusedVariables false
set_option maxRecDepth 100000
set_option maxHeartbeats 4000000
theorem tsp_fin : ∀ n : Fin 6, (grv (n.val : Int) n.val []).length ≤ 120 := by decide +kernel
theorem tsp_len2 (n : Int) (l : List (Int × Int)) : (tspG n l).length ≤ 120 := by
  unfold tspG
  split
  · rename_i h
    unfold tspB graphOk at h
    simp only [Bool.and_eq_true, decide_eq_true_eq] at h
    have := tsp_fin ⟨n.toNat, by omega⟩
    have e : ((n.toNat : Nat) : Int) = n := by omega
    simp only [e] at this
    exact this
  · simp
theorem wToV_len (q : Int → Int → Bool) {m : Int} (h : m ≤ 200) : ∀ k, (wTo q m k).length ≤ 200 * k
  | 0 => Nat.le_refl _
  | k + 1 => by
    have := wToV_len q h k
    have := wRow_len q k (m - ((k : Int) + 1)).toNat
    unfold wTo
    rw [List.length_append]
    omega
theorem totW_le : ∀ {L : List (List Int)}, (∀ s ∈ L, s.length ≤ 8) → totR L ≤ 8 * L.length
  | [], _ => by simp [totR]
  | s :: L, h => by
    have a := totW_le (L := L) fun t ht => h t (List.mem_cons_of_mem _ ht)
    have b := h s List.mem_cons_self
    simp only [totR, List.length_cons] at *
    omega
theorem tsp_bound (n : Int) (l : List (Int × Int)) : (tspG n l).length ≤ 1048576 ∧ (∀ k : Int, 0 ≤ k → k < (tspG n l).length → (getR .int (tspG n l) k).length ≤ 1048576) ∧ totR (tspG n l) ≤ 100000000 ∧ (tspQ n l).length ≤ 1048576 := by
  have a := tsp_len2 n l
  have b := totW_le (L := tspG n l) fun s hs => by
    obtain ⟨i, hi, e⟩ := List.mem_iff_getElem.1 hs
    have g := getR_get (t := .int) (l := tspG n l) (i := (i : Int)) (by omega) (by omega)
    have r := tsp_row (n := n) (l := l) (k := (i : Int)) (by omega) (by omega)
    rw [show ((i : Int)).toNat = i by omega, List.getElem?_eq_getElem hi, e] at g
    have g := Option.some.inj g
    rw [← g] at r
    omega
  have c := wToV_len (fun i j => difB l (getR .int (tspG n l) i) (getR .int (tspG n l) j)) (m := ((tspG n l).length : Int)) (by omega) (tspG n l).length
  refine ⟨by omega, fun k k0 k1 => by have := tsp_row k0 k1; omega, by omega, ?_⟩
  unfold tspQ
  omega
end Go.Proofs.Ytoejmijcikehdaa.M

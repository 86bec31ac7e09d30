/- Distances from a place, on both sides. -/
import Derived.Test.YtoejmijcikehdaaFzQ
import Derived.Test.YtoejmijcikehdaaRcQ
import Derived.Test.YtoejmijcikehdaaQg
namespace Go.Proofs.Ytoejmijcikehdaa.M
open Go.RowKit Abs
set_option linter.unusedSimpArgs false
set_option linter.unusedVariables false
set_option maxRecDepth 100000
set_option maxHeartbeats 4000000
theorem near_ok {n : Nat} {l : List (Int × Int)} (h : pairsOk l n = true) : (nearR l n).length = n ∧ near_in (nearR l n).length (nearR l n) ∧ ∀ r ∈ nearR l n, r.length ≤ l.length := by
  have hlen : (nearR l (n : Int)).length = n := by rw [nearR_len, Int.toNat_natCast]
  have he := (pairs_edges h).1
  have row : ∀ r ∈ nearR l (n : Int), ∃ v : Int, r = rowV v l := fun r hr => by
    obtain ⟨k, hk, rfl⟩ := List.mem_iff_getElem.1 hr
    refine ⟨(k : Int), ?_⟩
    rw [← nearR_row (n := (n : Int)) (by omega) he]
    have := getR_get (t := .int) (l := nearR l (n : Int)) (i := (k : Int)) (by omega) (by omega)
    simp only [Int.toNat_natCast] at this
    exact (List.getElem?_eq_some_iff.1 this).2
  refine ⟨hlen, fun r hr v hv => ?_, fun r hr => ?_⟩
  · obtain ⟨u, rfl⟩ := row r hr
    unfold rowV at hv
    obtain ⟨e, hm, ha⟩ := List.mem_filterMap.1 hv
    have := he e hm
    rw [hlen]
    split at ha
    · cases ha; omega
    · split at ha
      · cases ha; omega
      · cases ha
  · obtain ⟨u, rfl⟩ := row r hr
    exact rowV_len u l
def distR (L : List (List Int)) (l : List (Int × Int)) (i : Int) : List Int := (search (nearR l L.length) (fun _ => true) i).1
def queR (L : List (List Int)) (l : List (Int × Int)) (i : Int) : List Int := (search (nearR l L.length) (fun _ => true) i).2
theorem distances_bound {L : List (List Int)} {l : List (Int × Int)} {i : Int} : (if okS L l i = true then distR L l i else []).length ≤ 1048576 := by
  split
  · rename_i h
    simp only [okS, Bool.and_eq_true, decide_eq_true_eq] at h
    obtain ⟨n1, n2, n3⟩ := near_ok (space_parts h.1).2.2.2
    have := (search_inv (q := fun _ => true) h.2.1 (by omega : i < (nearR l L.length).length) n2).len
    have := (space_parts h.1).1
    unfold distR
    omega
  · simp
end Go.Proofs.Ytoejmijcikehdaa.M

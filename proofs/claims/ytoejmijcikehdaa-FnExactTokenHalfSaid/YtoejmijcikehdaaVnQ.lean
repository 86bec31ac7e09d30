/- TokenHalf, pure: distances are the same in both directions. -/
import Derived.Test.YtoejmijcikehdaaWfQ
import Derived.Test.YtoejmijcikehdaaBtQ
import Derived.Test.YtoejmijcikehdaaVlQ
import Derived.Test.YtoejmijcikehdaaQg
namespace Go.Proofs.Ytoejmijcikehdaa.M
open Go.RowKit Abs
set_option linter.unusedSimpArgs false
set_option linter.unusedVariables false
set_option maxRecDepth 100000
set_option maxHeartbeats 4000000
def dV (n : Int) (l : List (Int × Int)) (u v : Int) : Int := gi (distR (List.replicate n.toNat []) l u) v
theorem rep_len {n : Nat} : (List.replicate n ([] : List Int)).length = n := List.length_replicate
theorem graph_ok {n : Int} {l : List (Int × Int)} (h : graphOk n l = true) : (0 ≤ n ∧ n ≤ 8) ∧ pairsOk l n = true := by
  unfold graphOk at h
  simp only [Bool.and_eq_true, decide_eq_true_eq] at h
  exact h
theorem near_eqF {n : Int} {l : List (Int × Int)} (h : graphOk n l = true) : farN n l = nearR l n.toNat := by
  have hg := graph_ok h
  have e : ((n.toNat : Nat) : Int) = n := by omega
  have hp : pairsOk l (n.toNat : Nat) = true := by rw [e]; exact hg.2
  have hl : (nearR l (n.toNat : Nat)).length = n.toNat := (near_ok hp).1
  refine List.ext_getElem? fun k => ?_
  by_cases hk : k < n.toNat
  · have a : (farN n l)[k]? = some (nbrs l (k : Int) n.toNat) := by
      unfold farN
      rw [List.getElem?_map, List.getElem?_range hk]
      rfl
    have b := getR_get (t := .int) (l := nearR l (n.toNat : Nat)) (i := (k : Int)) (by omega) (by omega)
    rw [show ((k : Int)).toNat = k by omega] at b
    rw [a]
    rw [b, nearR_row (by omega) (by rw [e]; exact (graph_edges h).2.1), row_nbrs h (by omega)]
  · rw [List.getElem?_eq_none (by rw [farN_len]; omega), List.getElem?_eq_none (by omega)]
theorem far_eq {n x : Int} {l : List (Int × Int)} (h : graphOk n l = true) : (search (farN n l) (fun _ => true) x).1 = distR (List.replicate n.toNat []) l x := by
  unfold distR
  rw [rep_len, near_eqF h]
theorem dV_first {n u v : Int} {l : List (Int × Int)} (h : graphOk n l = true) (u0 : 0 ≤ u) (u1 : u < n) (v0 : 0 ≤ v) (v1 : v < n) (hv : v ∈ getR .int (nearR l n.toNat) u) : ∀ (d : Nat) (w : Int), 0 ≤ w → w < n → dV n l u w = d → 0 ≤ dV n l v w ∧ dV n l v w ≤ d + 1 := by
  have hg := graph_ok h
  have e : ((n.toNat : Nat) : Int) = n := by omega
  have hp : pairsOk l ((List.replicate n.toNat ([] : List Int)).length : Nat) = true := by rw [rep_len, e]; exact hg.2
  have eL : (((List.replicate n.toNat ([] : List Int)).length : Nat) : Int) = n := by rw [rep_len, e]
  have hsym : u ∈ getR .int (nearR l ((List.replicate n.toNat ([] : List Int)).length : Nat)) v := (near_sym hp u0 v0).1 (by rw [rep_len]; exact hv)
  intro d
  induction d with
  | zero =>
    intro w w0 w1 hw
    have hz := (dist_zero hp u0 (by omega)).2 w w0 (by omega) hw
    subst hz
    have hz2 := (dist_zero hp v0 (by omega)).1
    have := dist_step hp v0 (by omega) v0 (by omega) (by omega) hsym
    unfold dV
    omega
  | succ d ih =>
    intro w w0 w1 hw
    have hne : w ≠ u := fun c => by
      have := (dist_zero hp u0 (by omega)).1
      unfold dV at hw
      rw [c, this] at hw
      omega
    obtain ⟨w', hw', a, b⟩ := dist_pred hp u0 (by omega) w0 (by omega) (by show 0 ≤ dV n l u w; omega) hne
    have hr := dist_step hp u0 (by omega) w0 (by omega) (by show 0 ≤ dV n l u w; omega) hw'
    have i := ih w' hr.1 (by omega) (by show gi (distR (List.replicate n.toNat []) l u) w' = _; rw [a]; show dV n l u w - 1 = _; omega)
    have := dist_step hp v0 (by omega) hr.1 hr.2.1 (show 0 ≤ gi (distR (List.replicate n.toNat []) l v) w' from i.1) ((near_sym hp w0 hr.1).1 hw')
    have i2 : gi (distR (List.replicate n.toNat []) l v) w' ≤ d + 1 := i.2
    unfold dV
    omega
theorem dV_half {n u : Int} {l : List (Int × Int)} (h : graphOk n l = true) (u0 : 0 ≤ u) (u1 : u < n) : ∀ (d : Nat) (w : Int), 0 ≤ w → w < n → dV n l u w = d → 0 ≤ dV n l w u ∧ dV n l w u ≤ d := by
  have hg := graph_ok h
  have e : ((n.toNat : Nat) : Int) = n := by omega
  have hp : pairsOk l ((List.replicate n.toNat ([] : List Int)).length : Nat) = true := by rw [rep_len, e]; exact hg.2
  have eL : (((List.replicate n.toNat ([] : List Int)).length : Nat) : Int) = n := by rw [rep_len, e]
  intro d
  induction d with
  | zero =>
    intro w w0 w1 hw
    have hz := (dist_zero hp u0 (by omega)).2 w w0 (by omega) hw
    subst hz
    omega
  | succ d ih =>
    intro w w0 w1 hw
    have hne : w ≠ u := fun c => by
      have := (dist_zero hp u0 (by omega)).1
      unfold dV at hw
      rw [c, this] at hw
      omega
    obtain ⟨w', hw', a, b⟩ := dist_pred hp u0 (by omega) w0 (by omega) (by show 0 ≤ dV n l u w; omega) hne
    have hr := dist_step hp u0 (by omega) w0 (by omega) (by show 0 ≤ dV n l u w; omega) hw'
    have i := ih w' hr.1 (by omega) (by show gi (distR (List.replicate n.toNat []) l u) w' = _; rw [a]; show dV n l u w - 1 = _; omega)
    have hm : w ∈ getR .int (nearR l n.toNat) w' := by
      have := (near_sym hp w0 hr.1).1 hw'
      rw [rep_len] at this
      exact this
    have := dV_first h hr.1 (by omega) w0 w1 hm (dV n l w' u).toNat u u0 u1 (by omega)
    omega
theorem dV_sym {n u v : Int} {l : List (Int × Int)} (h : graphOk n l = true) (u0 : 0 ≤ u) (u1 : u < n) (v0 : 0 ≤ v) (v1 : v < n) : (0 ≤ dV n l u v → dV n l v u = dV n l u v) ∧ (dV n l u v < 0 → dV n l v u < 0) := by
  refine ⟨fun a => ?_, fun a => ?_⟩
  · have b := dV_half h u0 u1 (dV n l u v).toNat v v0 v1 (by omega)
    have c := dV_half h v0 v1 (dV n l v u).toNat u u0 u1 (by omega)
    omega
  · refine Classical.byContradiction fun c => ?_
    have := dV_half h v0 v1 (dV n l v u).toNat u u0 u1 (by omega)
    omega
theorem dV_le {n u : Int} {l : List (Int × Int)} (h : graphOk n l = true) (u0 : 0 ≤ u) (u1 : u < n) (v : Int) : dV n l u v ≤ 8 := by
  have hg := graph_ok h
  have e : ((n.toNat : Nat) : Int) = n := by omega
  have hp : pairsOk l ((List.replicate n.toNat ([] : List Int)).length : Nat) = true := by rw [rep_len, e]; exact hg.2
  obtain ⟨n1, n2, n3⟩ := near_ok hp
  have o := search_inv (q := fun _ => true) (i := u) u0 (by rw [n1, rep_len]; omega) n2
  have a := o.up v
  have b := o.cnt
  rw [n1, rep_len] at b
  have c : dV n l u v = gi (search (nearR l ((List.replicate n.toNat ([] : List Int)).length : Nat)) (fun _ => true) u).1 v := rfl
  rw [n1, rep_len] at *
  rw [c]
  have : gi (search (nearR l ((List.replicate n.toNat ([] : List Int)).length : Nat)) (fun _ => true) u).1 v = gi (search (nearR l (n.toNat : Nat)) (fun _ => true) u).1 v := by rw [rep_len]
  omega
end Go.Proofs.Ytoejmijcikehdaa.M

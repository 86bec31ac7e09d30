/- The first one of the shortest ways (pure). -/
import Derived.Test.YtemdajfcfmefnaaBtQ
import Derived.Test.YtemdajfcfmefnaaCiQ
import Derived.Test.YtemdajfcfmefnaaQg
namespace Go.Proofs.Ytemdajfcfmefnaa.M
open Go.RowKit Abs
set_option linter.unusedSimpArgs false
set_option linter.unusedVariables false
set_option maxRecDepth 100000
set_option maxHeartbeats 4000000
def qd (D : List Int) (p v : Int) : Bool := decide (gi D v < gi D p)
def fstI (R : List (List Int)) (D : List Int) (p : Int) : Int := findI (getR .int R p) (qd D p)
def nxt (R : List (List Int)) (D : List Int) (p : Int) : Int := gi (getR .int R p) (fstI R D p)
theorem fst_ok {L : List (List Int)} {l : List (Int × Int)} {j p : Int} (hp : pairsOk l L.length = true) (j0 : 0 ≤ j) (j1 : j < L.length) (p0 : 0 ≤ p) (p1 : p < L.length) (hpos : 1 ≤ gi (distR L l j) p) :
    (0 ≤ fstI (nearR l L.length) (distR L l j) p ∧ fstI (nearR l L.length) (distR L l j) p < ((getR .int (nearR l L.length) p).length : Int)) ∧ gi (distR L l j) (nxt (nearR l L.length) (distR L l j) p) = gi (distR L l j) p - 1 ∧
    (0 ≤ nxt (nearR l L.length) (distR L l j) p ∧ nxt (nearR l L.length) (distR L l j) p < L.length) ∧
    ∀ k : Int, 0 ≤ k → k < fstI (nearR l L.length) (distR L l j) p → gi (distR L l j) (gi (getR .int (nearR l L.length) p) k) ≠ gi (distR L l j) p - 1 := by
  have hz := dist_zero (i := j) hp j0 j1
  obtain ⟨u, hu, e1, _⟩ := dist_pred hp j0 j1 p0 p1 (by omega) (fun e => by rw [e, hz.1] at hpos; omega)
  unfold nxt fstI
  generalize hr : getR .int (nearR l L.length) p = row at hu
  have hstep : ∀ v : Int, v ∈ row → 0 ≤ v ∧ v < L.length ∧ gi (distR L l j) p ≤ gi (distR L l j) v + 1 := fun v hv => by
    have := dist_step hp j0 j1 p0 p1 (by omega) (show v ∈ getR .int (nearR l L.length) p by rw [hr]; exact hv)
    omega
  unfold findI
  cases hf : row.findIdx? (qd (distR L l j) p) with
  | none =>
    rw [List.findIdx?_eq_none_iff] at hf
    have := hf u hu
    unfold qd at this
    simp only [decide_eq_false_iff_not] at this
    omega
  | some m =>
    rw [List.findIdx?_eq_some_iff_getElem] at hf
    obtain ⟨h1, h2, h3⟩ := hf
    have eg : ∀ (a : Nat) (h : a < row.length), gi row (a : Int) = row[a] := fun a h => by
      unfold gi
      rw [Int.toNat_natCast, List.getD_eq_getElem?_getD, List.getElem?_eq_getElem h]; rfl
    simp only [eg m h1]
    unfold qd at h2
    simp only [decide_eq_true_eq] at h2
    have hs := hstep _ (List.getElem_mem h1)
    refine ⟨⟨by omega, by omega⟩, by omega, ⟨hs.1, hs.2.1⟩, fun k k0 k1 => ?_⟩
    have h4 := h3 k.toNat (by omega)
    have := eg k.toNat (by omega)
    rw [Int.toNat_of_nonneg k0] at this
    rw [this]
    unfold qd at h4
    simp only [decide_eq_true_eq] at h4
    omega
def wayN (R : List (List Int)) (D : List Int) (i : Int) : Nat → List Int × Int
  | 0 => ([i], i)
  | m + 1 => ((wayN R D i m).1 ++ [nxt R D (wayN R D i m).2], nxt R D (wayN R D i m).2)
theorem way_next {R : List (List Int)} {D : List Int} {i k : Int} (h0 : 0 ≤ k) : (wayN R D i (k + 1).toNat).1 = (wayN R D i k.toNat).1 ++ [nxt R D (wayN R D i k.toNat).2] ∧ (wayN R D i (k + 1).toNat).2 = nxt R D (wayN R D i k.toNat).2 := by
  rw [show (k + 1).toNat = k.toNat + 1 by omega]; exact ⟨rfl, rfl⟩
theorem way_len (R : List (List Int)) (D : List Int) (i : Int) : ∀ m : Nat, (wayN R D i m).1.length = m + 1
  | 0 => rfl
  | m + 1 => by simp [wayN, way_len R D i m]
theorem way_ok {L : List (List Int)} {l : List (Int × Int)} {i j : Int} (hp : pairsOk l L.length = true) (i0 : 0 ≤ i) (i1 : i < L.length) (j0 : 0 ≤ j) (j1 : j < L.length) : ∀ m : Nat, (m : Int) ≤ gi (distR L l j) i →
    (0 ≤ (wayN (nearR l L.length) (distR L l j) i m).2 ∧ (wayN (nearR l L.length) (distR L l j) i m).2 < L.length) ∧ gi (distR L l j) (wayN (nearR l L.length) (distR L l j) i m).2 = gi (distR L l j) i - m
  | 0, h => ⟨⟨i0, i1⟩, by show gi (distR L l j) i = _; simp⟩
  | m + 1, h => by
    have ih := way_ok hp i0 i1 j0 j1 m (by omega)
    have hf := fst_ok hp j0 j1 ih.1.1 ih.1.2 (by omega)
    exact ⟨hf.2.2.1, by show gi (distR L l j) (nxt _ _ _) = _; rw [hf.2.1]; omega⟩
def wayR (L : List (List Int)) (l : List (Int × Int)) (i j : Int) : List Int := if gi (distR L l j) i < 0 then [] else (wayN (nearR l L.length) (distR L l j) i (gi (distR L l j) i).toNat).1
def wayB (L : List (List Int)) (l : List (Int × Int)) (i j : Int) : Bool := okT L l i j && decide (0 ≤ gi (distR L l j) i)
def wayF (L : List (List Int)) (l : List (Int × Int)) (i j : Int) : List Int := if okT L l i j = true then wayR L l i j else []
theorem im_fw1 (x p : Int) (D : List Int) (x0 : 0 ≤ x) (x1 : x < D.length) (p0 : 0 ≤ p) (p1 : p < D.length) (hD : D.length ≤ 1048576) : Spec2 Try.prog 68 [.int fun _ => x, .ibox [.sl .int fun _ => D] 0, .ibox [.int fun _ => p] 0] [] [.bool fun _ => qd D p x] [] := by
  refine fnS [] [4] Try.func68 rfl (by decide) rfl (by decide) (by kernel_rfl) rfl (by simp [Try.ntmps68]) ?_
  cbv
  unfold qd
  ((try simp only [IfP_iff, and_true, true_and, decide_eq_true_eq, decide_eq_false_iff_not]); (try simp only [natc, getI_gi, at2_0, at2_1]); (try dsimp only [Ty.den]); (try simp only [natc] at *); (repeat' (first | apply And.intro | intro _)))
  all_goals (try (simp only [IfP_iff, EqU_iff, Obl_iff, and_true, true_and, inI_iff, decide_eq_true_eq, decide_eq_false_iff_not]; (try simp only [natc, getI_gi, at2_0, at2_1]); (try dsimp only [Ty.den]); try simp only [natc] at *))
  all_goals ((repeat' (first | apply And.intro | intro _)) <;> first | omega | (simp only [List.length_append, List.length_cons, List.length_nil]; omega) | grind)
end Go.Proofs.Ytemdajfcfmefnaa.M

/- Valid triangulations: several at once in the program, one in the specification. -/
import Derived.Test.YtjkmgdhndbdhoaaDhQ
import Derived.Test.YtjkmgdhndbdhoaaIfQ
import Derived.Test.YtjkmgdhndbdhoaaQg
namespace Go.Proofs.Ytjkmgdhndbdhoaa.M
open Go.RowKit Abs
set_option linter.unusedSimpArgs false
set_option linter.unusedVariables false
set_option maxRecDepth 100000
set_option maxHeartbeats 4000000
theorem not_any {L : List (List Int)} {q : List Int → Bool} : (!L.any fun x => !q x) = L.all q := by
  rw [Bool.eq_iff_iff]
  simp
def vv (n : Int) (a b : List Int) : Bool := triV n a && triV n b
theorem triV_poly {n : Int} {l : List Int} (h : triV n l = true) : 3 ≤ n ∧ n ≤ 8 := by
  unfold triV polyB at h
  simp only [Bool.and_eq_true, decide_eq_true_eq] at h
  exact h.1
theorem triV_len {n : Int} {l : List Int} (h : triV n l = true) : (l.length : Int) = n - 3 := by
  unfold triV triB at h
  simp only [Bool.and_eq_true, decide_eq_true_eq] at h
  exact h.2.1
theorem triV_mem {n : Int} {l : List Int} (h : triV n l = true) {x : Int} (hx : x ∈ l) : x ∈ diagL n := by
  unfold triV triB fitB at h
  simp only [Bool.and_eq_true, decide_eq_true_eq] at h
  obtain ⟨k, k0, k1, e⟩ := mem_at hx
  have h1 := allI_get h.2.2.1 k0 k1
  unfold fitOk at h1
  have h2 := (fit_mem.1 (hasB_iff.1 h1)).1
  have e1 : gi l k = x := e
  rwa [e1] at h2
theorem triV_in {n : Int} {l : List Int} (h : triV n l = true) {x : Int} (hx : x ∈ l) : 0 ≤ x ∧ x < 100 := diag_in (triV_poly h).1 (triV_poly h).2 x (triV_mem h hx)
theorem triV_pw {n : Int} {l : List Int} (h : triV n l = true) : l.Pairwise (· < ·) := by
  unfold triV triB fitB at h
  simp only [Bool.and_eq_true, decide_eq_true_eq] at h
  have hinc := h.2.2.2
  rw [List.pairwise_iff_getElem]
  intro i j hi hj hij
  have h4 := inc_lt hinc (a := i) (by omega) (d := j - i - 1) (by omega)
  have g : ∀ (k : Nat) (hk : k < l.length), gi l k = l[k] := fun k hk => by
    unfold gi
    rw [show ((k : Int)).toNat = k by omega, List.getD_eq_getElem?_getD, List.getElem?_eq_getElem hk]; rfl
  rw [show (i : Int) + ((j - i - 1 : Nat) : Int) + 1 = (j : Int) by omega, g i hi, g j hj] at h4
  exact h4
end Go.Proofs.Ytjkmgdhndbdhoaa.M

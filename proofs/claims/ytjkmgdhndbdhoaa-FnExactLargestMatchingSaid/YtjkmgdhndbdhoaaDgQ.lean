/- Triangulations: the tests on both sides. -/
import Derived.Test.YtjkmgdhndbdhoaaDdQ
import Derived.Test.YtjkmgdhndbdhoaaTuQ
import Derived.Test.YtjkmgdhndbdhoaaQg
namespace Go.Proofs.Ytjkmgdhndbdhoaa.M
open Go.RowKit Abs
set_option linter.unusedSimpArgs false
set_option linter.unusedVariables false
set_option maxRecDepth 100000
set_option maxHeartbeats 4000000
theorem fit_in {n : Int} (n0 : 3 ≤ n) (n1 : n ≤ 8) {l : List Int} {k : Int} (k0 : 0 ≤ k) (k1 : k ≤ l.length) (h : ∀ j : Int, 0 ≤ j → j < k → hasB (diagL n) (gi l j) = true) : ∀ x ∈ subL l 0 k, 0 ≤ x ∧ x < 100 := fun x hx => by
  rw [subL_take] at hx
  obtain ⟨j, j0, j1, e⟩ := mem_at hx
  rw [List.length_take] at j1
  have h1 := h j j0 (by omega)
  have e1 : gi l j = x := by
    rw [← e]
    show gi l j = gi (l.take k.toNat) j
    unfold gi
    rw [List.getD_eq_getElem?_getD, List.getD_eq_getElem?_getD, List.getElem?_take, if_pos (by omega)]
  rw [e1] at h1
  exact diag_in n0 n1 x (hasB_iff.1 h1)
end Go.Proofs.Ytjkmgdhndbdhoaa.M

/- CrossingsOf, CommonDiagonals, FanOf: both sides. -/
import Derived.Test.YtjkmgdhndbdhoaaDiQ
import Derived.Test.YtjkmgdhndbdhoaaDnQ
import Derived.Test.YtjkmgdhndbdhoaaQg
namespace Go.Proofs.Ytjkmgdhndbdhoaa.M
open Go.RowKit Abs
set_option linter.unusedSimpArgs false
set_option linter.unusedVariables false
set_option maxRecDepth 100000
set_option maxHeartbeats 4000000
def cntB (l : List Int) (p : Int → Bool) (k : Nat) : Int := ((l.take k).filter p).length
theorem cntB_next {l : List Int} {p : Int → Bool} {k : Int} (h0 : 0 ≤ k) (h1 : k < (l.length : Int)) : cntB l p (k + 1).toNat = cntB l p k.toNat + if p (gi l k) = true then 1 else 0 := by
  unfold cntB
  rw [take_gi h0 h1, List.filter_append, List.length_append]
  by_cases h : p (gi l k) = true
  · rw [if_pos h, List.filter_cons, if_pos h]; simp
  · rw [if_neg h, List.filter_cons, if_neg h]; simp
theorem cntB_in (l : List Int) (p : Int → Bool) (k : Nat) : 0 ≤ cntB l p k ∧ cntB l p k ≤ l.length := by
  unfold cntB
  have := List.length_filter_le p (l.take k)
  rw [List.length_take] at this
  omega
def crossTo (a b : List Int) : Nat → Int
  | 0 => 0
  | i + 1 => crossTo a b i + cntB b (crossB (gi a i)) b.length
theorem crossTo_in (a b : List Int) : ∀ i, 0 ≤ crossTo a b i ∧ crossTo a b i ≤ i * b.length
  | 0 => by simp [crossTo]
  | i + 1 => by
    have h1 := crossTo_in a b i
    have h2 := cntB_in b (crossB (gi a i)) b.length
    unfold crossTo
    have e : ((i + 1 : Nat) : Int) * b.length = i * b.length + b.length := by
      rw [Int.natCast_add, Int.add_mul]; simp
    rw [e]
    omega
theorem crossTo_next {a b : List Int} {i : Int} (h : 0 ≤ i) : crossTo a b (i + 1).toNat = crossTo a b i.toNat + cntB b (crossB (gi a i)) b.length := by
  rw [show (i + 1).toNat = i.toNat + 1 by omega]
  conv => lhs; unfold crossTo
  rw [show ((i.toNat : Nat) : Int) = i by omega]
def crossR (n : Int) (a b : List Int) : Int := if vv n a b = true then crossTo a b a.length else 0
theorem cross_bound {n : Int} {a b : List Int} (ha : triV n a = true) (hb : triV n b = true) (i : Int) (h0 : 0 ≤ i) (h1 : i ≤ a.length) : 0 ≤ crossTo a b i.toNat ∧ crossTo a b i.toNat ≤ 25 := by
  have h2 := crossTo_in a b i.toNat
  have h3 := triV_len ha
  have h4 := triV_len hb
  have h5 := triV_poly ha
  refine ⟨h2.1, Int.le_trans h2.2 ?_⟩
  have : ((i.toNat : Nat) : Int) * b.length ≤ 5 * 5 := Int.mul_le_mul (by omega) (by omega) (by omega) (by omega)
  omega
end Go.Proofs.Ytjkmgdhndbdhoaa.M

/- Spaces: whether they are valid, on both sides. -/
import Derived.Test.YtikclhackjjhfaaQg
import Derived.Test.YtikclhackjjhfaaQe
namespace Go.Proofs.Ytikclhackjjhfaa.M
open Go.RowKit Abs
set_option linter.unusedSimpArgs false
set_option linter.unusedVariables false
set_option maxRecDepth 100000
set_option maxHeartbeats 4000000
def allI (n : Nat) (p : Int → Bool) : Bool := (List.range n).all fun k => p k
theorem allI_bad {n : Nat} {p : Int → Bool} {k : Int} (h0 : 0 ≤ k) (h1 : k < (n : Int)) (h : p k = false) : allI n p = false := by
  unfold allI
  rw [List.all_eq_false]
  exact ⟨k.toNat, by simp; omega, by rw [Int.toNat_of_nonneg h0, h]; simp⟩
theorem allI_good {n : Nat} {p : Int → Bool} (h : ∀ k : Int, 0 ≤ k → k < (n : Int) → p k = true) : allI n p = true := by
  unfold allI
  rw [List.all_eq_true]
  intro k hk
  exact h k (by omega) (by simpa using hk)
theorem allI_get {n : Nat} {p : Int → Bool} (h : allI n p = true) {k : Int} (h0 : 0 ≤ k) (h1 : k < (n : Int)) : p k = true := by
  unfold allI at h
  rw [List.all_eq_true] at h
  have := h k.toNat (by simp; omega)
  rwa [Int.toNat_of_nonneg h0] at this
theorem upTo {p : Int → Bool} {k : Int} (h : ∀ j : Int, 0 ≤ j → j < k → p j = true) : p k = true → ∀ j : Int, 0 ≤ j → j < k + 1 → p j = true := fun hk j h1 h2 => by
  by_cases hj : j = k
  · rw [hj]; exact hk
  · exact h j h1 (by omega)
def inB (x : Int) : Bool := decide (-99 ≤ x) && decide (x ≤ 99)
def stateOk (s : List Int) : Bool := allI s.length (fun k => inB (getI .int s k)) && decide ((s.length : Int) ≤ 24)
def goodS (l : List (List Int)) (k : Int) : Bool := stateOk (getI (.sl .int) l k) && (decide (k ≤ 0) || decide (cmpL (getI (.sl .int) l (k - 1)) (getI (.sl .int) l k) < 0))
def statesOk (l : List (List Int)) : Bool := allI l.length (goodS l)
def spaceOk (l : List (List Int)) (m : List (Int × Int)) : Bool := decide ((l.length : Int) ≤ 300) && decide ((m.length : Int) ≤ 6000) && statesOk l && pairsOk m l.length
theorem cmpL_nil_r : ∀ {x : List Int}, cmpL x [] < 0 ↔ False
  | [] => by simp [cmpL]
  | a :: x => by simp [cmpL]
theorem cmpL_nil_l : ∀ {y : List Int}, cmpL [] y < 0 ↔ 0 < y.length
  | [] => by simp [cmpL]
  | a :: x => by simp [cmpL]
theorem sp_before (x y : List Int) (hx : x.length ≤ 1048576) (hy : y.length ≤ 1048576) : Spec2 Try.prog 155 [.sl .int fun _ => x, .sl .int fun _ => y] [] [.bool fun _ => decide (cmpL x y < 0)] [] := by
  refine fnS [] [4] Try.func155 rfl (by decide) rfl (by decide) (by kernel_rfl) rfl (by simp [Try.ntmps155]) ?_
  cbv
  refine loopP (by kernel_rfl) (fun k : Int => 0 ≤ k ∧ k ≤ x.length ∧ k ≤ y.length ∧ x.take k.toNat = y.take k.toNat) (fun k => [(5, .int fun _ => k)]) (fun _ => []) (fun k => (x.length - k).toNat) (· + 1) 0 (by simp) ?_ ?_
  · cbv
    (simp only [IfP_iff, EqU_iff, Obl_iff, and_true, true_and, inI_iff, decide_eq_true_eq, decide_eq_false_iff_not]; (try simp only [natc, at2_0, at2_1]); (try dsimp only [Ty.den]); try simp only [natc] at *)
  · intro k hk
    have h1 := cmp_at (x := x) (y := y) (k := k)
    have h2 := cmpL_take (x := x) (y := y) (k := k.toNat)
    have h3 := take_getI (t := .int) (l := x) (i := k)
    have h4 := take_getI (t := .int) (l := y) (i := k)
    have h5 := @cmp_same (getI .int x k) (getI .int y k)
    have h6 : cmpI (getI .int x k) (getI .int y k) = _ := rfl
    conv at h6 => rhs; unfold cmpI
    have h7 : ¬ k < (x.length : Int) ∨ ¬ k < (y.length : Int) → (cmpL x y < 0 ↔ x.length < y.length) := fun h => by
      rw [h2 hk.2.2.2 (by omega) (by omega)]
      rcases h with h | h
      · rw [show x.drop k.toNat = [] from List.drop_eq_nil_of_le (by omega), cmpL_nil_l, List.length_drop]; omega
      · rw [show y.drop k.toNat = [] from List.drop_eq_nil_of_le (by omega), cmpL_nil_r]; exact ⟨False.elim, fun hh => by omega⟩
    cbv
    ((try simp only [IfP_iff, and_true, true_and, decide_eq_true_eq, decide_eq_false_iff_not]); (try simp only [natc, at2_0, at2_1]); (try dsimp only [Ty.den]); (try simp only [natc] at *); (repeat' (first | apply And.intro | intro _)))
    all_goals (try (simp only [IfP_iff, EqU_iff, Obl_iff, and_true, true_and, inI_iff, decide_eq_true_eq, decide_eq_false_iff_not]; (try simp only [natc, at2_0, at2_1]); (try dsimp only [Ty.den]); try simp only [natc] at *))
    all_goals ((repeat' (first | apply And.intro | intro _)) <;> first | omega | (simp only [List.length_append, List.length_cons, List.length_nil]; omega) | grind)
end Go.Proofs.Ytikclhackjjhfaa.M

/- Diagonals of polygons, pure: all of them in order, which of them cross, triangulations. -/
import Derived.Test.YtjkmgdhndbdhoaaQg
import Derived.Test.YtjkmgdhndbdhoaaHsQ
namespace Go.Proofs.Ytjkmgdhndbdhoaa.M
open Go.RowKit Abs
set_option linter.unusedSimpArgs false
set_option linter.unusedVariables false
set_option maxRecDepth 100000
set_option maxHeartbeats 4000000
def dOk (n a b : Int) : Bool := decide (0 < a) || decide (b < n - 1)
/-- The diagonals at a corner a, to the first k corners behind the next one. -/
def dRow (n a : Int) : Nat → List Int
  | 0 => []
  | k + 1 => dRow n a k ++ if dOk n a (a + 2 + k) = true then [10 * a + (a + 2 + k)] else []
def dTo (n : Int) : Nat → List Int
  | 0 => []
  | a + 1 => dTo n a ++ dRow n a (n - ((a : Int) + 2)).toNat
def diagL (n : Int) : List Int := dTo n n.toNat
theorem dRow_next {n a b : Int} (h : a + 2 ≤ b) : dRow n a (b + 1 - (a + 2)).toNat = dRow n a (b - (a + 2)).toNat ++ if dOk n a b = true then [10 * a + b] else [] := by
  obtain ⟨k, hk⟩ : ∃ k : Nat, b = a + 2 + k := ⟨(b - (a + 2)).toNat, by omega⟩
  subst hk
  rw [show (a + 2 + (k : Int) + 1 - (a + 2)).toNat = k + 1 by omega, show (a + 2 + (k : Int) - (a + 2)).toNat = k by omega]
  rfl
theorem dTo_next {n a : Int} (h : 0 ≤ a) : dTo n (a + 1).toNat = dTo n a.toNat ++ dRow n a (n - (a + 2)).toNat := by
  obtain ⟨k, hk⟩ : ∃ k : Nat, a = k := ⟨a.toNat, by omega⟩
  subst hk
  rw [show ((k : Int) + 1).toNat = k + 1 by omega, show (k : Int).toNat = k by omega]
  rfl
theorem dRow_len (n a : Int) : ∀ k, (dRow n a k).length ≤ k
  | 0 => Nat.le_refl _
  | k + 1 => by
    have := dRow_len n a k
    unfold dRow
    split <;> simp <;> omega
theorem dTo_len {n : Int} (h0 : 0 ≤ n) (h : n ≤ 8) : ∀ k, (dTo n k).length ≤ 8 * k
  | 0 => Nat.le_refl _
  | k + 1 => by
    have := dTo_len h0 h k
    have := dRow_len n k (n - ((k : Int) + 2)).toNat
    unfold dTo
    rw [List.length_append]
    omega
theorem diag_len {n : Int} (h0 : 0 ≤ n) (h : n ≤ 8) : (diagL n).length ≤ 64 := by
  have := dTo_len h0 h n.toNat
  unfold diagL
  omega
def crossB (x y : Int) : Bool := (decide (x.tdiv 10 < y.tdiv 10) && decide (y.tdiv 10 < x.tmod 10) && decide (x.tmod 10 < y.tmod 10)) || (decide (y.tdiv 10 < x.tdiv 10) && decide (x.tdiv 10 < y.tmod 10) && decide (y.tmod 10 < x.tmod 10))
def apartB (l : List Int) (x : Int) : Bool := l.all fun y => !crossB y x
/-- The numbers of a rule that fit to a list. -/
def fitL (nums : List Int) (ex : Int → Int → Bool) (l : List Int) : List Int := nums.filter fun x => l.all fun y => !(decide (y = x) || ex y x)
def fitOk (nums : List Int) (ex : Int → Int → Bool) (l : List Int) (k : Int) : Bool := hasB (fitL nums ex (l.take k.toNat)) (gi l k)
/-- All fit, and they are ascending. -/
def fitB (nums : List Int) (ex : Int → Int → Bool) (l : List Int) : Bool := allI l.length (fitOk nums ex l) && incB l
def triB (n : Int) (l : List Int) : Bool := decide ((l.length : Int) = n - 3) && fitB (diagL n) crossB l
def polyB (n : Int) : Bool := decide (3 ≤ n) && decide (n ≤ 8)
def triV (n : Int) (l : List Int) : Bool := polyB n && triB n l
theorem fit_mem {nums : List Int} {ex : Int → Int → Bool} {l : List Int} {x : Int} : x ∈ fitL nums ex l ↔ x ∈ nums ∧ ∀ y ∈ l, y ≠ x ∧ ex y x = false := by
  unfold fitL
  rw [List.mem_filter, List.all_eq_true]
  constructor
  · rintro ⟨h1, h2⟩
    refine ⟨h1, fun y hy => ?_⟩
    have := h2 y hy
    simp only [Bool.not_eq_true', Bool.or_eq_false_iff, decide_eq_false_iff_not] at this
    exact this
  · rintro ⟨h1, h2⟩
    refine ⟨h1, fun y hy => ?_⟩
    obtain ⟨h3, h4⟩ := h2 y hy
    simp [h3, h4]
/-- What the specification asks of the k-th number of a triangulation. -/
def spOk (n : Int) (l : List Int) (k : Int) : Bool := hasB (diagL n) (gi l k) && (decide (k ≤ 0) || decide (gi l (k - 1) < gi l k)) && apartB (l.take k.toNat) (gi l k)
theorem inc_lt {s : List Int} (h : incB s = true) {a : Int} (h0 : 0 ≤ a) : ∀ {d : Nat}, a + d + 1 < (s.length : Int) → gi s a < gi s (a + d + 1)
  | 0, hl => by
    have h1 := allI_get h (k := a + 1) (by omega) (by omega)
    unfold incOk at h1
    simp only [Bool.or_eq_true, decide_eq_true_eq] at h1
    rcases h1 with h1 | h1
    · omega
    · have e : a + ((0 : Nat) : Int) + 1 = a + 1 := by omega
      rw [e]
      rw [show a + 1 - 1 = a by omega] at h1
      exact h1
  | d + 1, hl => by
    have h1 := inc_lt h h0 (d := d) (by omega)
    have h2 := allI_get h (k := a + d + 2) (by omega) (by omega)
    unfold incOk at h2
    simp only [Bool.or_eq_true, decide_eq_true_eq] at h2
    rcases h2 with h2 | h2
    · omega
    · rw [show a + (d : Int) + 2 - 1 = a + d + 1 by omega] at h2
      have e : a + ((d + 1 : Nat) : Int) + 1 = a + d + 2 := by omega
      rw [e]
      exact Int.lt_trans h1 h2
theorem tri_spec (n : Int) (l : List Int) : (allI l.length (spOk n l) && decide ((l.length : Int) = n - 3)) = triB n l := by
  unfold triB fitB
  rw [Bool.eq_iff_iff]
  simp only [Bool.and_eq_true, decide_eq_true_eq]
  constructor
  · rintro ⟨h1, h2⟩
    have hinc : incB l = true := by
      refine allI_good fun k k0 k1 => ?_
      have := allI_get h1 k0 k1
      unfold spOk at this
      simp only [Bool.and_eq_true] at this
      exact this.1.2
    refine ⟨h2, allI_good fun k k0 k1 => ?_, hinc⟩
    have h3 := allI_get h1 k0 k1
    unfold spOk at h3
    simp only [Bool.and_eq_true] at h3
    unfold fitOk
    rw [hasB_iff, fit_mem]
    refine ⟨hasB_iff.1 h3.1.1, fun y hy => ⟨?_, ?_⟩⟩
    · obtain ⟨i, hi, e⟩ := List.getElem_of_mem hy
      rw [List.getElem_take] at e
      rw [List.length_take] at hi
      have hi2 : (i : Int) < k := by omega
      have h4 := inc_lt hinc (a := i) (by omega) (d := (k - i - 1).toNat) (by omega)
      rw [show (i : Int) + ((k - i - 1).toNat : Int) + 1 = k by omega] at h4
      have e2 : gi l i = y := by
        rw [← e]
        unfold gi
        rw [show ((i : Int)).toNat = i by omega, List.getD_eq_getElem?_getD, List.getElem?_eq_getElem (by omega)]
        rfl
      rw [e2] at h4
      exact Int.ne_of_lt h4
    · have h5 := List.all_eq_true.1 h3.2 y hy
      simpa using h5
  · rintro ⟨h2, h1, hinc⟩
    refine ⟨allI_good fun k k0 k1 => ?_, h2⟩
    have h3 := allI_get h1 k0 k1
    unfold fitOk at h3
    rw [hasB_iff, fit_mem] at h3
    have h4 := allI_get hinc k0 k1
    unfold spOk
    simp only [Bool.and_eq_true]
    refine ⟨⟨hasB_iff.2 h3.1, h4⟩, List.all_eq_true.2 fun y hy => ?_⟩
    have := (h3.2 y hy).2
    simp [this]
end Go.Proofs.Ytjkmgdhndbdhoaa.M

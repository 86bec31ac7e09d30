/- Sets of nodes as binary digits; the nodes that are not in a set, on both sides. -/
import Derived.Test.YtjkmgdhndbdhoaaCtQ
import Derived.Test.YtjkmgdhndbdhoaaPfQ
import Derived.Test.YtjkmgdhndbdhoaaHsQ
namespace Go.Proofs.Ytjkmgdhndbdhoaa.M
open Go.RowKit Abs
set_option linter.unusedSimpArgs false
set_option linter.unusedVariables false
set_option maxRecDepth 100000
set_option maxHeartbeats 4000000
def bitB (a v : Int) : Bool := a.toNat.testBit v.toNat
theorem bit_eq {a v : Int} (h0 : 0 ≤ a) (h1 : 0 ≤ v) (h2 : v ≤ 64) : (band (a.fdiv (2 ^ (min v.toNat 64))) 1 = 1) ↔ bitB a v = true := by
  have e : min v.toNat 64 = v.toNat := by omega
  rw [e]
  unfold band bitB
  have e2 : a.fdiv (2 ^ v.toNat) = ((a.toNat / 2 ^ v.toNat : Nat) : Int) := by
    have hc : (a.toNat : Int) = a := by omega
    rw [Int.natCast_ediv, hc, Int.fdiv_eq_ediv_of_nonneg _ (Int.pow_nonneg (by omega))]
    simp
  rw [e2, Nat.testBit_eq_decide_div_mod_eq]
  simp only [Int.toNat_natCast, decide_eq_true_eq]
  rw [show (1 : Int).toNat = 1 from rfl, Nat.and_one_is_mod]
  omega
theorem bit_in {a v : Int} (h0 : 0 ≤ a) (h1 : a ≤ 18446744073709551615) : in64 (a.fdiv (2 ^ v.toNat)) := by
  have hp : (0 : Int) < 2 ^ v.toNat := Int.pow_pos (by omega)
  rw [Int.fdiv_eq_ediv_of_nonneg _ (Int.le_of_lt hp)]
  refine ⟨Int.ediv_nonneg h0 (Int.le_of_lt hp), ?_⟩
  exact Int.le_trans (Int.ediv_le_self _ h0) h1
def nset (s : List Int) : Int := s.foldl (fun a x => bor a (1 * 2 ^ (min x.toNat 64))) 0
theorem nset_next {s : List Int} {k : Int} (h0 : 0 ≤ k) (h1 : k < (s.length : Int)) : nset (s.take (k + 1).toNat) = bor (nset (s.take k.toNat)) (1 * 2 ^ (min (getI .int s k).toNat 64)) := by
  unfold nset
  rw [take_getI (t := .int) h0 h1, List.foldl_append]
  rfl
theorem two_nat (x : Int) : (1 : Int) * 2 ^ (min x.toNat 64) = ((2 ^ (min x.toNat 64) : Nat) : Int) := by simp
theorem sh_in (x : Int) (h0 : 0 ≤ x) (h1 : x < 8) : 0 ≤ (1 : Int) * 2 ^ (min x.toNat 64) ∧ (1 : Int) * 2 ^ (min x.toNat 64) ≤ 128 := by
  have e : min x.toNat 64 = x.toNat := by omega
  have hp : 2 ^ x.toNat ≤ 2 ^ 7 := Nat.pow_le_pow_right (by omega) (by omega)
  rw [two_nat, e]
  exact ⟨Int.natCast_nonneg _, Int.ofNat_le.2 (show 2 ^ x.toNat ≤ 128 from hp)⟩
theorem nset_fold : ∀ (s : List Int) (a : Nat), (∀ x ∈ s, 0 ≤ x ∧ x < 8) → a < 256 → ∃ b : Nat, s.foldl (fun a x => bor a (1 * 2 ^ (min x.toNat 64))) (a : Int) = (b : Int) ∧ b < 256 ∧ ∀ i : Nat, b.testBit i = (a.testBit i || s.any fun x => decide ((i : Int) = x))
  | [], a, _, ha => ⟨a, rfl, ha, fun i => by simp⟩
  | x :: s, a, h, ha => by
    obtain ⟨hx0, hx1⟩ := h x (by simp)
    have e : min x.toNat 64 = x.toNat := by omega
    have hp : 2 ^ x.toNat < 2 ^ 8 := Nat.pow_lt_pow_right (by omega) (by omega)
    have hb : a ||| 2 ^ x.toNat < 2 ^ 8 := Nat.or_lt_two_pow ha hp
    obtain ⟨b, h1, h2, h3⟩ := nset_fold s (a ||| 2 ^ x.toNat) (fun y hy => h y (by simp [hy])) hb
    refine ⟨b, ?_, h2, fun i => ?_⟩
    · rw [List.foldl_cons, ← h1, two_nat, e]
      rfl
    · rw [h3, Nat.testBit_or, Nat.testBit_two_pow, List.any_cons, Bool.or_assoc]
      congr 2
      rw [decide_eq_decide]
      omega
theorem nset_bits {s : List Int} (h : ∀ x ∈ s, 0 ≤ x ∧ x < 8) : 0 ≤ nset s ∧ nset s ≤ 255 ∧ ∀ v : Int, 0 ≤ v → bitB (nset s) v = hasB s v := by
  obtain ⟨b, h1, h2, h3⟩ := nset_fold s 0 h (by omega)
  have e : nset s = (b : Int) := h1
  rw [e]
  refine ⟨by omega, by omega, fun v hv => ?_⟩
  unfold bitB hasB
  rw [Int.toNat_natCast, h3, Nat.zero_testBit, Bool.false_or, Int.toNat_of_nonneg hv]
theorem asc_mem {n : Int} {s : List Int} (h : ascB n s = true) (x : Int) (hx : x ∈ s) : 0 ≤ x ∧ x < n := by
  obtain ⟨j, a, b, c⟩ := mem_at hx
  have := allI_get (p := nodeOk n s) h a b
  unfold nodeOk at this
  rw [c] at this
  simp only [Bool.and_eq_true, decide_eq_true_eq] at this
  exact this.1
end Go.Proofs.Ytjkmgdhndbdhoaa.M

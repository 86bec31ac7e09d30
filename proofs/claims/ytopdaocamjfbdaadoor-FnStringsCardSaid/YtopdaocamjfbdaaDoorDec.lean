import Derived.Lib.ItoaNum
/- Decimal numerals: what a reader of digits, left to right, holds behind each byte. -/
namespace Go.Proofs.YtopdaocamjfbdaaDoor.Dec
open Go.Lib

theorem dg_toNat (u j : Nat) : (dg u j).toNat = 48 + u / 10 ^ j % 10 := by
  unfold dg
  have : u / 10 ^ j % 10 < 10 := Nat.mod_lt _ (by decide)
  rw [UInt8.toNat_ofNat']
  omega

theorem itoa_neg {n : Int} (h : n < 0) : itoa n = 45 :: decDigits n.natAbs := by rw [itoa, if_pos h]
theorem itoa_pos {n : Int} (h : ¬ n < 0) : itoa n = decDigits n.natAbs := by
  rw [itoa, if_neg h]; congr 1; omega

theorem dec_get (u k : Nat) (h : k < nDigits u) : (decDigits u)[k]? = some (dg u (nDigits u - 1 - k)) := by
  rw [decDigits_eq]; simp [h]

theorem div_step (u j : Nat) : 10 * (u / 10 ^ (j + 1)) + u / 10 ^ j % 10 = u / 10 ^ j := by
  rw [Nat.pow_succ, ← Nat.div_div_eq_div_mul]; omega

/-- Byte k of a numeral: the sign, or the digit that carries the value on. -/
theorem byte_sign {m : Int} {l : List UInt8} (h : l = itoa m) (hm : m < 0) : l[0]? = some 45 := by
  rw [h, itoa_neg hm]; rfl

theorem nDigits_le {u : Nat} (k : Nat) (h : u < 10 ^ (k + 1)) : nDigits u ≤ k + 1 := by
  induction k generalizing u with
  | zero => rw [nDigits_small (by simpa using h)]; exact Nat.le_refl _
  | succ k ih =>
    by_cases hu : u < 10
    · rw [nDigits_small hu]; omega
    · rw [nDigits_big hu]
      have := ih (u := u / 10) (by rw [Nat.pow_succ] at h; omega)
      omega

theorem itoa_len {m : Int} : (itoa m).length = nDigits m.natAbs + (if m < 0 then 1 else 0) := by
  by_cases h : m < 0
  · rw [itoa_neg h, if_pos h, List.length_cons, decDigits_length]
  · rw [itoa_pos h, if_neg h, decDigits_length]; rfl

theorem byte_digit {m : Int} {l : List UInt8} (h : l = itoa m) (k : Nat) (hk : k < l.length) (hs : m < 0 → 1 ≤ k) :
    ∃ b, l[k]? = some b ∧ 48 ≤ b.toNat ∧ b.toNat ≤ 57 ∧
      10 * (m.natAbs / 10 ^ (l.length - k)) + (b.toNat - 48) = m.natAbs / 10 ^ (l.length - (k + 1)) := by
  subst h
  have hl := itoa_len (m := m)
  have hd : ∀ j, 48 ≤ (dg m.natAbs j).toNat ∧ (dg m.natAbs j).toNat ≤ 57 ∧ (dg m.natAbs j).toNat - 48 = m.natAbs / 10 ^ j % 10 := fun j => by
    rw [dg_toNat]; have : m.natAbs / 10 ^ j % 10 < 10 := Nat.mod_lt _ (by decide); omega
  by_cases hm : m < 0
  · rw [if_pos hm] at hl
    have h1 := hs hm
    obtain ⟨a, b, c⟩ := hd (nDigits m.natAbs - 1 - (k - 1))
    refine ⟨_, ?_, a, b, ?_⟩
    · rw [itoa_neg hm, show k = (k - 1) + 1 by omega, List.getElem?_cons_succ]
      exact dec_get _ _ (by omega)
    · rw [c, show (itoa m).length - k = (nDigits m.natAbs - 1 - (k - 1)) + 1 by omega, show (itoa m).length - (k + 1) = nDigits m.natAbs - 1 - (k - 1) by omega]
      exact div_step _ _
  · rw [if_neg hm] at hl
    obtain ⟨a, b, c⟩ := hd (nDigits m.natAbs - 1 - k)
    refine ⟨_, ?_, a, b, ?_⟩
    · rw [itoa_pos hm]; exact dec_get _ _ (by omega)
    · rw [c, show (itoa m).length - k = (nDigits m.natAbs - 1 - k) + 1 by omega, show (itoa m).length - (k + 1) = nDigits m.natAbs - 1 - k by omega]
      exact div_step _ _

/-- Ahead of the first digit nothing has been read. -/
theorem start_zero {m : Int} : m.natAbs / 10 ^ (itoa m).length = 0 ∧ (m < 0 → m.natAbs / 10 ^ ((itoa m).length - 1) = 0) := by
  have hl := itoa_len (m := m)
  have h0 := lt_pow_nDigits m.natAbs
  constructor
  · refine Nat.div_eq_of_lt (Nat.lt_of_lt_of_le h0 (Nat.pow_le_pow_right (by decide) (by rw [hl]; omega)))
  · intro hm
    rw [if_pos hm] at hl
    refine Nat.div_eq_of_lt ?_
    rw [hl]; simpa using h0

theorem div_le {u c j : Nat} (h : u ≤ c) : u / 10 ^ j ≤ c := Nat.le_trans (Nat.div_le_self _ _) h

end Go.Proofs.YtopdaocamjfbdaaDoor.Dec

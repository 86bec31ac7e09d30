/- A sealed text of which one byte is changed is sealed no more. -/
import Derived.Test.YtopdaocamjfbdaaDoorVerify
namespace Go.Proofs.YtopdaocamjfbdaaDoor
open Go.RowKit Go.Lib Dec
set_option linter.unusedVariables false

theorem foldl_bd (l : List UInt8) (h : Int) (h0 : 0 ≤ h ∧ h ≤ 999978) : 0 ≤ l.foldl sumStep h ∧ l.foldl sumStep h ≤ 999978 := by
  induction l generalizing h with
  | nil => exact h0
  | cons c l ih => exact ih _ (sumStep_bd h c)
theorem step_inj (a b : Int) (c : UInt8) (ha : 0 ≤ a ∧ a ≤ 999978) (hb : 0 ≤ b ∧ b ≤ 999978) (h : sumStep a c = sumStep b c) : a = b := by
  unfold sumStep at h
  generalize (c.toNat : Int) = x at h
  omega
theorem step_byte (a : Int) (c d : UInt8) (h : sumStep a c = sumStep a d) : c = d := by
  unfold sumStep at h
  have h1 := c.toNat_lt
  have h2 := d.toNat_lt
  apply UInt8.toNat_inj.1
  omega
theorem foldl_inj (l : List UInt8) (a b : Int) (ha : 0 ≤ a ∧ a ≤ 999978) (hb : 0 ≤ b ∧ b ≤ 999978) (h : l.foldl sumStep a = l.foldl sumStep b) : a = b := by
  induction l generalizing a b with
  | nil => exact h
  | cons c l ih => exact step_inj a b c ha hb (ih _ _ (sumStep_bd a c) (sumStep_bd b c) h)
theorem sum_change (l : List UInt8) (k : Nat) (v : UInt8) (hk : k < l.length) (hv : v ≠ l[k]) : sumOf (l.set k v) ≠ sumOf l := by
  intro h
  rw [List.set_eq_take_append_cons_drop, if_pos hk] at h
  have e : l = l.take k ++ l[k] :: l.drop (k + 1) := by rw [List.getElem_cons_drop, List.take_append_drop]
  have h2 : sumOf l = sumOf (l.take k ++ l[k] :: l.drop (k + 1)) := congrArg sumOf e
  rw [h2] at h
  unfold sumOf at h
  rw [List.foldl_append, List.foldl_append, List.foldl_cons, List.foldl_cons] at h
  have hb := foldl_bd (l.take k) 7 (by decide)
  exact hv (step_byte _ _ _ (foldl_inj _ _ _ (sumStep_bd _ _) (sumStep_bd _ _) h))

theorem itoa_inj (m n : Int) (hm : 0 ≤ m) (hn : 0 ≤ n) (h : itoa m = itoa n) : m = n := by
  have step : ∀ k, k ≤ (itoa m).length → m.natAbs / 10 ^ ((itoa m).length - k) = n.natAbs / 10 ^ ((itoa m).length - k) := by
    intro k
    induction k with
    | zero =>
      intro _
      rw [Nat.sub_zero, (start_zero (m := m)).1]
      have := (start_zero (m := n)).1
      rw [← h] at this
      rw [this]
    | succ k ih =>
      intro hk
      have e := ih (by omega)
      obtain ⟨b, h1, h2, h3, h4⟩ := byte_digit (m := m) (l := itoa m) rfl k (by omega) (by omega)
      obtain ⟨d, g1, g2, g3, g4⟩ := byte_digit (m := n) (l := itoa m) h k (by omega) (by omega)
      rw [h1] at g1
      obtain rfl := Option.some.inj g1
      rw [← h4, ← g4, e]
  have := step (itoa m).length (Nat.le_refl _)
  simp at this
  omega
theorem itoa_free (m : Int) (hm : 0 ≤ m) : (35 : UInt8) ∉ itoa m := by
  intro h
  obtain ⟨i, hi⟩ := List.mem_iff_getElem?.1 h
  obtain ⟨b, h1, h2, h3, h4⟩ := byte_digit (m := m) (l := itoa m) rfl i (List.getElem?_eq_some_iff.1 hi).1 (by omega)
  rw [hi] at h1
  obtain rfl := Option.some.inj h1
  simp at h2

theorem mark_only {X D : List UInt8} (hX : (35 : UInt8) ∉ X) (hD : (35 : UInt8) ∉ D) (i : Nat) (h : (X ++ 35 :: D)[i]? = some 35) : i = X.length := by
  rcases Nat.lt_trichotomy i X.length with hi | hi | hi
  · rw [List.getElem?_append_left hi] at h
    exact absurd (List.mem_of_getElem? h) hX
  · exact hi
  · rw [List.getElem?_append_right (by omega)] at h
    obtain ⟨j, hj⟩ : ∃ j, i - X.length = j + 1 := ⟨i - X.length - 1, by omega⟩
    rw [hj, List.getElem?_cons_succ] at h
    exact absurd (List.mem_of_getElem? h) hD
theorem mark_there (X D : List UInt8) : (X ++ 35 :: D)[X.length]? = some 35 := by
  rw [List.getElem?_append_right (Nat.le_refl _)]; simp
theorem seal_list (s : ByteArray) : (sealText s).data.toList = s.data.toList ++ 35 :: itoa (sumOf s.data.toList) := by
  unfold sealText intText
  simp [ByteArray.data_append]

/-- THE CHANGE: whatever byte of a sealed text becomes another one, the text is sealed no more. -/
theorem changed (x y' : ByteArray) (k : Nat) (v : UInt8) (hx : (35 : UInt8) ∉ x.data.toList) (hk : k < (sealText x).data.toList.length) (hv : v ≠ (sealText x).data.toList[k])
    (hy : y'.data.toList = (sealText x).data.toList.set k v) : ¬ Sealed y' := by
  rintro ⟨hs, _⟩
  have ht := head_free y' 35
  generalize headOf y' 35 = t at *
  have hX := sumOf_bd x.data.toList
  have hT := sumOf_bd t.data.toList
  have e1 := seal_list x
  have e2 : y'.data.toList = t.data.toList ++ 35 :: itoa (sumOf t.data.toList) := by rw [← hs]; exact seal_list t
  have dX := itoa_free _ hX.1
  have dT := itoa_free _ hT.1
  have inj := itoa_inj (sumOf t.data.toList) (sumOf x.data.toList) hT.1 hX.1
  have chg := sum_change x.data.toList
  generalize x.data.toList = X at *
  generalize t.data.toList = T at *
  generalize hDX : itoa (sumOf X) = DX at *
  generalize hDT : itoa (sumOf T) = DT at *
  generalize (sealText x).data.toList = Y at *
  generalize y'.data.toList = Y' at *
  subst e1
  have other : ∀ i, i ≠ k → (T ++ 35 :: DT)[i]? = (X ++ 35 :: DX)[i]? := by
    intro i hi
    rw [← e2, hy, List.getElem?_set_ne (Ne.symm hi)]
  have at_k : (T ++ 35 :: DT)[k]? = some v := by rw [← e2, hy]; exact List.getElem?_set_self hk
  have hlen : (T ++ 35 :: DT).length = (X ++ 35 :: DX).length := by rw [← e2, hy, List.length_set]
  have hka : k ≠ X.length := by
    intro e
    by_cases hb : T.length = X.length
    · have h1 := mark_there T DT
      rw [hb, ← e, at_k] at h1
      have h2 := mark_there X DX
      rw [← e] at h2
      have h3 := (List.getElem?_eq_some_iff.1 h2).2
      exact hv (by rw [h3]; exact Option.some.inj h1)
    · have h1 := mark_there T DT
      rw [other T.length (by omega)] at h1
      exact hb (mark_only hx dX _ h1)
  have hab : X.length = T.length := by
    have h1 := mark_there X DX
    rw [← other X.length (Ne.symm hka)] at h1
    exact mark_only ht dT _ h1
  have hdl : DT.length = DX.length := by simp at hlen; omega
  rcases Nat.lt_or_ge k X.length with hlt | hge
  · -- a byte of the text: the digits stand, so the sums are the same; they are not
    have hD : DT = DX := by
      apply List.ext_getElem?
      intro i
      have := other (X.length + 1 + i) (by omega)
      rw [List.getElem?_append_right (by omega), List.getElem?_append_right (by omega), show X.length + 1 + i - T.length = i + 1 by omega, show X.length + 1 + i - X.length = i + 1 by omega, List.getElem?_cons_succ, List.getElem?_cons_succ] at this
      exact this
    have hTX : T = X.set k v := by
      apply List.ext_getElem?
      intro i
      by_cases hi : i < X.length
      · by_cases hik : i = k
        · subst hik
          have := at_k
          rw [List.getElem?_append_left (by omega)] at this
          rw [this, List.getElem?_set_self hlt]
        · have := other i hik
          rw [List.getElem?_append_left (by omega), List.getElem?_append_left hi] at this
          rw [this, List.getElem?_set_ne (Ne.symm hik)]
      · rw [List.getElem?_eq_none (by omega), List.getElem?_eq_none (by rw [List.length_set]; omega)]
    have hvk : v ≠ X[k] := by
      intro e
      apply hv
      rw [e, List.getElem_append_left hlt]
    have hsum := inj hD
    rw [hTX] at hsum
    exact chg k v hlt hvk hsum
  · -- a byte of the digits: the text stands, so its sum; then nothing has changed
    have hTX : T = X := by
      apply List.ext_getElem?
      intro i
      by_cases hi : i < X.length
      · have := other i (by omega)
        rw [List.getElem?_append_left (by omega), List.getElem?_append_left hi] at this
        exact this
      · rw [List.getElem?_eq_none (by omega), List.getElem?_eq_none (by omega)]
    subst hTX
    rw [hDX] at hDT
    subst hDT
    rw [List.getElem?_eq_getElem hk] at at_k
    exact hv (Option.some.inj at_k).symm
end Go.Proofs.YtopdaocamjfbdaaDoor

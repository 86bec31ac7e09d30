/- Splitting and joining are inverse; the order of texts is strict. -/
import Derived.Test.YtopdaocamjfbdaaSplit3
namespace Go.Proofs.Ytopdaocamjfbdaa
open Go.RowKit
set_option linter.unusedVariables false

theorem ext_data (a b : ByteArray) (h : a.data.toList = b.data.toList) : a = b := ByteArray.ext (Array.ext' h)
theorem extract_cat (s : ByteArray) (i j k : Nat) (h1 : i ≤ j) (h2 : j ≤ k) : s.extract i j ++ s.extract j k = s.extract i k := by
  apply ext_data
  rw [ByteArray.data_append, Array.toList_append, Lib.extract_data, Lib.extract_data, Lib.extract_data]
  rw [show k - i = (j - i) + (k - j) by omega, List.take_add, List.drop_drop, show i + (j - i) = j by omega]
theorem extract_one (s : ByteArray) (k : Nat) (h : k < s.size) : s.extract k (k + 1) = ⟨#[s[k]]⟩ := by
  apply ext_data
  have hb := byte_at s k h
  have hlt := (List.getElem?_eq_some_iff.1 hb).1
  rw [Lib.extract_data, show k + 1 - k = 1 by omega, List.take_one, List.head?_drop, hb]
  rfl
theorem extract_all (s : ByteArray) : s.extract 0 s.size = s := by
  apply ext_data
  rw [Lib.extract_data, List.drop_zero, Nat.sub_zero, List.take_of_length_le (by rw [← Lib.size_eq]; exact Nat.le_refl _)]
theorem extract_zero (s : ByteArray) : s.extract 0 0 = ByteArray.empty := by
  apply ext_data; rw [Lib.extract_data]; simp

theorem cut_free (s : ByteArray) (c : UInt8) (k : Nat) (hk : k ≤ s.size) : (∀ x ∈ (cutSt s c k).1, c ∉ x.data.toList) ∧ ∀ i, (cutSt s c k).2 ≤ i → i < k → s.data.toList[i]? ≠ some c := by
  induction k with
  | zero => exact ⟨by simp [cutSt], fun i _ h => by omega⟩
  | succ k ih =>
    obtain ⟨h1, h2⟩ := ih (by omega)
    simp only [cutSt]
    split
    · refine ⟨fun x hx => ?_, fun i h3 h4 => by simp at h3; omega⟩
      rcases List.mem_append.1 hx with hx | hx
      · exact h1 x hx
      · simp only [List.mem_singleton] at hx
        subst hx
        intro hm
        obtain ⟨i, hi⟩ := List.mem_iff_getElem?.1 hm
        rw [Lib.extract_data, List.getElem?_take] at hi
        split at hi
        · rw [List.getElem?_drop] at hi
          exact h2 _ (by omega) (by omega) hi
        · cases hi
    · rename_i hne
      refine ⟨h1, fun i h3 h4 => ?_⟩
      by_cases e : i = k
      · rw [e]; exact hne
      · exact h2 i h3 (by omega)
theorem cut_join (s : ByteArray) (c : UInt8) (k : Nat) (hk : k ≤ s.size) :
    ((cutSt s c k).1 = [] ∧ (cutSt s c k).2 = 0) ∨ ((cutSt s c k).1 ≠ [] ∧ joinText (cutSt s c k).1 ⟨#[c]⟩ ++ ⟨#[c]⟩ = s.extract 0 (cutSt s c k).2) := by
  induction k with
  | zero => exact .inl ⟨rfl, rfl⟩
  | succ k ih =>
    have hle := (cutSt_le s c k).2
    simp only [cutSt]
    split
    · rename_i hb
      have hlt : k < s.size := by omega
      have hsk : s[k] = c := by have := byte_at s k hlt; rw [hb] at this; exact (Option.some.inj this).symm
      have hone := extract_one s k hlt
      rw [hsk] at hone
      right
      refine ⟨by simp, ?_⟩
      rcases ih (by omega) with ⟨h1, h2⟩ | ⟨h1, h2⟩
      · rw [h1, h2, List.nil_append, join_single, ← hone, extract_cat s 0 k (k + 1) (by omega) (by omega)]
      · rw [← join_snoc _ _ _ h1, h2, extract_cat s 0 _ k (by omega) hle, ← hone, extract_cat s 0 k (k + 1) (by omega) (by omega)]
    · exact ih (by omega)
theorem split_join (s : ByteArray) (c : UInt8) : joinText (splitOf s c) ⟨#[c]⟩ = s := by
  have hle := (cutSt_le s c s.size).2
  unfold splitOf
  rcases cut_join s c s.size (Nat.le_refl _) with ⟨h1, h2⟩ | ⟨h1, h2⟩
  · rw [h1, h2, List.nil_append, join_single, extract_all]
  · rw [← join_snoc _ _ _ h1, h2, extract_cat s 0 _ s.size (by omega) hle, extract_all]
theorem split_free (s : ByteArray) (c : UInt8) : ∀ x ∈ splitOf s c, c ∉ x.data.toList := by
  obtain ⟨h1, h2⟩ := cut_free s c s.size (Nat.le_refl _)
  intro x hx
  unfold splitOf at hx
  rcases List.mem_append.1 hx with hx | hx
  · exact h1 x hx
  · simp only [List.mem_singleton] at hx
    subst hx
    intro hm
    obtain ⟨i, hi⟩ := List.mem_iff_getElem?.1 hm
    rw [Lib.extract_data, List.getElem?_take] at hi
    split at hi
    · rw [List.getElem?_drop] at hi
      exact h2 _ (by omega) (by omega) hi
    · cases hi
theorem split_joinable (s : ByteArray) (c : UInt8) (hs : s.size ≤ 4000) : Joinable (splitOf s c) c := ⟨by unfold splitOf; simp, split_free s c, by rw [split_join]; exact hs⟩
theorem split_res (s : ByteArray) (c : UInt8) (hs : s.size ≤ 4000) : joinRes (splitOf s c) ⟨#[c]⟩ = (s, true) := by
  unfold joinRes
  rw [if_pos ⟨c, rfl, split_joinable s c hs⟩, split_join]

theorem less_asymm : ∀ x y : List UInt8, Op.bytesLess x y = true → Op.bytesLess y x = false
  | x, [], h => by cases x <;> simp [Op.bytesLess] at h
  | [], b :: y, h => by simp [Op.bytesLess]
  | a :: x, b :: y, h => by
    simp only [Op.bytesLess, Bool.or_eq_true, decide_eq_true_eq, Bool.and_eq_true, beq_iff_eq] at h
    have ih := less_asymm x y
    simp only [Op.bytesLess, Bool.or_eq_false_iff, decide_eq_false_iff_not, Bool.and_eq_false_iff, beq_eq_false_iff_ne]
    rcases h with h | ⟨h1, h2⟩
    · have h' := UInt8.lt_iff_toNat_lt.1 h
      refine ⟨fun h3 => by have := UInt8.lt_iff_toNat_lt.1 h3; omega, .inl fun e => by rw [e] at h'; omega⟩
    · subst h1
      exact ⟨fun h3 => by have := UInt8.lt_iff_toNat_lt.1 h3; omega, .inr (ih h2)⟩
end Go.Proofs.Ytopdaocamjfbdaa

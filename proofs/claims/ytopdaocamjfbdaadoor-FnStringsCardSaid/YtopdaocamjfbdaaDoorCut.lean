/- The walk of strings.Cut at the mark, and the first piece of a text. -/
import Derived.Test.YtopdaocamjfbdaaDoorSplit
import Derived.Test.YtopdaocamjfbdaaDoorShelf
import Derived.Deep.QuietTactic
import Derived.BigQuiet
import Derived.Lib.Strings
namespace Go.Proofs.YtopdaocamjfbdaaDoor
open Go.RowKit
set_option linter.unusedVariables false

theorem idx_spec (l : List UInt8) (c : UInt8) : (Lib.indexByte l c = -1 ∧ c ∉ l) ∨ ∃ j : Nat, Lib.indexByte l c = j ∧ l[j]? = some c ∧ ∀ i, i < j → l[i]? ≠ some c := by
  induction l with
  | nil => left; simp [Lib.indexByte]
  | cons b l ih =>
    unfold Lib.indexByte
    by_cases hb : (b == c) = true
    · right
      have e : b = c := by simpa using hb
      exact ⟨0, by rw [if_pos hb]; rfl, by simp [e], fun i hi => by omega⟩
    · have e : b ≠ c := by simpa using hb
      rw [if_neg hb]
      rcases ih with ⟨h1, h2⟩ | ⟨j, h1, h2, h3⟩
      · left; rw [h1]; exact ⟨rfl, by simp [h2, Ne.symm e]⟩
      · right
        refine ⟨j + 1, ?_, by simpa using h2, ?_⟩
        · rw [h1, if_neg (by simp)]; rfl
        · intro i hi
          cases i with
          | zero => simpa using e
          | succ i => simpa using h3 i (by omega)

/-- The part of a text before the first byte c; all of it if there is none. -/
def headOf (s : ByteArray) (c : UInt8) : ByteArray := if 0 ≤ Lib.indexByte s.data.toList c then s.extract 0 (Lib.indexByte s.data.toList c).toNat else s
theorem head_none (s : ByteArray) (c : UInt8) (h : c ∉ s.data.toList) : headOf s c = s := by
  unfold headOf; rw [if_neg (fun h0 => h ((indexByte_mem _ _).1 h0))]
theorem head_at (s : ByteArray) (c : UInt8) (j : Nat) (h : Lib.indexByte s.data.toList c = j) : headOf s c = s.extract 0 j := by
  unfold headOf; rw [h, if_pos (by omega)]; rfl
theorem head_free (s : ByteArray) (c : UInt8) : c ∉ (headOf s c).data.toList := by
  rcases idx_spec s.data.toList c with ⟨_, h2⟩ | ⟨j, h1, h2, h3⟩
  · rw [head_none s c h2]; exact h2
  · rw [head_at s c j h1, Lib.extract_data]
    intro hm
    obtain ⟨i, hi⟩ := List.mem_iff_getElem?.1 hm
    simp only [Nat.sub_zero, List.drop_zero] at hi
    rw [List.getElem?_take] at hi
    split at hi
    · exact h3 i (by assumption) hi
    · cases hi
theorem head_size (s : ByteArray) (c : UInt8) : (headOf s c).size ≤ s.size := by
  unfold headOf
  split
  · simp [ByteArray.size_extract]; omega
  · exact Nat.le_refl _

theorem cut_before (s : ByteArray) (c : UInt8) (k : Nat) (h : ∀ i, i < k → s.data.toList[i]? ≠ some c) : cutSt s c k = ([], 0) := by
  induction k with
  | zero => rfl
  | succ k ih => simp only [cutSt]; rw [if_neg (h k (by omega)), ih fun i hi => h i (by omega)]
theorem cut_behind (s : ByteArray) (c : UInt8) (j : Nat) (h1 : s.data.toList[j]? = some c) (h2 : ∀ i, i < j → s.data.toList[i]? ≠ some c) (d : Nat) : ∃ r, (cutSt s c (j + 1 + d)).1 = s.extract 0 j :: r := by
  induction d with
  | zero => simp only [cutSt]; rw [if_pos h1, cut_before s c j h2]; exact ⟨[], rfl⟩
  | succ d ih =>
    obtain ⟨r, hr⟩ := ih
    show ∃ r, (cutSt s c (j + 1 + d + 1)).1 = _
    simp only [cutSt]
    split
    · exact ⟨r ++ [_], by rw [hr]; rfl⟩
    · exact ⟨r, hr⟩
theorem split_head (s : ByteArray) (c : UInt8) : ∃ r, splitOf s c = headOf s c :: r := by
  unfold splitOf
  rcases idx_spec s.data.toList c with ⟨_, h2⟩ | ⟨j, h1, h2, h3⟩
  · rw [head_none s c h2, cut_before s c s.size (fun i _ e => h2 (List.mem_of_getElem? e))]
    exact ⟨[], by simp⟩
  · rw [head_at s c j h1]
    have hj : j < s.size := by have := (List.getElem?_eq_some_iff.1 h2).1; simpa using this
    obtain ⟨r, hr⟩ := cut_behind s c j h2 h3 (s.size - (j + 1))
    rw [show j + 1 + (s.size - (j + 1)) = s.size by omega] at hr
    rw [hr]
    exact ⟨_, rfl⟩

/-- What Cut leaves: the head first. -/
def CutEnd (s : ByteArray) (w : World) (e : Ending) (w' : World) : Prop := ∃ r f, e = .returned (.tuple #[.string (headOf s 35), .string r, .bool f]) ∧ ∃ q, w' = w.drewN q

set_option maxHeartbeats 1000000 in
theorem liteCut (s : ByteArray) (w : World) (hs : s.size ≤ 9223372036854775806) :
    Calls Tryd.prog 40 #[.string s, .string ⟨#[35]⟩] w (CutEnd s w) := by
  have c := Tryd.stringslite_Index_one s 35 w
  rcases idx_spec s.data.toList 35 with ⟨h1, h2⟩ | ⟨j, h1, h2, h3⟩
  · rw [h1] at c
    have C := Lib.hid c
    have HH := Lib.hid (head_none s 35 h2)
    clear c h1 h2
    go_enter Tryd.func40, Tryd.ntmps40
    go_wp2_with (go_at_call 42; refine C.out.mono ?_; rintro e w' ⟨rfl, rfl⟩)
    go_ret3
    exact ⟨_, _, by rw [HH.out]; rfl, 0, rfl⟩
  · have hj : j < s.size := by have := (List.getElem?_eq_some_iff.1 h2).1; simpa using this
    rw [h1] at c
    have C := Lib.hid c
    have HH := Lib.hid (head_at s 35 j h1)
    have hw : IntKind.i64.wrap ((j : Int) + 1) = (j : Int) + 1 := IntWalk.i64_in _ (by omega)
    clear c h1 h2 h3
    go_enter Tryd.func40, Tryd.ntmps40
    go_wp2_with (go_at_call 42; refine C.out.mono ?_; rintro e w' ⟨rfl, rfl⟩)
    go_quiet (fail)
    go_wp2
    go_ret3
    exact ⟨_, _, by rw [HH.out]; rfl, nq, rfl⟩

theorem stringsCut (s : ByteArray) (w : World) (hs : s.size ≤ 9223372036854775806) :
    Calls Tryd.prog 34 #[.string s, .string ⟨#[35]⟩] w (CutEnd s w) := by
  go_enter Tryd.func34, Tryd.ntmps34
  go_wp2_with fail
  refine (liteCut s w hs).mono ?_
  rintro e w' ⟨r, f, rfl, q, rfl⟩
  go_wp2
  go_ret3
  exact ⟨r, f, rfl, q, rfl⟩
end Go.Proofs.YtopdaocamjfbdaaDoor

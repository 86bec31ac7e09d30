/- Slices of texts: what came in, what the call made; the walks of the laws' helpers over them. -/
import Derived.Test.YtopdaocamjfbdaaDoorProg
import Derived.WalkKit
import Derived.WalkLawsBesides
import Derived.Below
import Derived.OwnWalk
import Derived.Maps.AppendAt
import Derived.WalkSpells
import Derived.Lib.Hide
import Derived.Deep.QuietTactic
import Derived.BigQuiet
import Derived.Outline
namespace Go.Proofs.YtopdaocamjfbdaaDoor
open Go.RowKit
set_option linter.unusedVariables false

/-- What a walk is told of a slice of texts that came in. -/
def IsTexts (w : World) (a : Option Addr) (len cap : Nat) (zs : List ByteArray) : Prop :=
  (a = none ∧ len = 0 ∧ cap = 0 ∧ zs = []) ∨
  ∃ x, a = some x ∧ len ≤ cap ∧ cap ≤ maxLen ∧ zs.length = cap ∧ (∀ i, i < zs.length → w.cell? (x.add i) = some (.string (zs.getD i ByteArray.empty))) ∧ ∀ s ∈ zs, s.size ≤ maxLen

/-- The texts of a slice lie at its address, one a cell. -/
def TextsAt (w : World) (a : Option Addr) (l : List ByteArray) : Prop :=
  l = [] ∨ ∃ b o, a = some ⟨b, o, none⟩ ∧ b < w.heap.size ∧ ∀ i x, l[i]? = some x → w.cell? ⟨b, o + i, none⟩ = some (.string x)

theorem add_at (b o i : Nat) : (⟨b, o, none⟩ : Addr).add i = ⟨b, o + i, none⟩ := by
  by_cases h : i = 0
  · subst h; simp [Addr.add]
  · simp [Addr.add, h]
theorem cell_block {w : World} {b o : Nat} {v : Value} (h : w.cell? ⟨b, o, none⟩ = some v) : b < w.heap.size := by
  rcases Nat.lt_or_ge b w.heap.size with h' | h'
  · exact h'
  · simp [World.cell?, Array.getElem?_eq_none h'] at h

theorem textsAt_of {w : World} {a : Option Addr} {len cap : Nat} {zs : List ByteArray} (h : IsTexts w a len cap zs) :
    ∃ l : List ByteArray, l.length = len ∧ TextsAt w a l ∧ (∀ s ∈ l, s.size ≤ maxLen) ∧ len ≤ maxLen := by
  rcases h with ⟨rfl, rfl, rfl, rfl⟩ | ⟨x, rfl, h1, h2, h3, h4, h5⟩
  · exact ⟨[], rfl, .inl rfl, by simp, Nat.zero_le _⟩
  · refine ⟨zs.take len, by simp; omega, ?_, fun s hs => h5 s (List.mem_of_mem_take hs), Nat.le_trans h1 h2⟩
    by_cases h0 : len = 0
    · left; simp [h0]
    · right
      obtain ⟨b, off, spot⟩ := x
      have hc := h4 0 (by omega)
      have hspot : spot = none := by simpa [Addr.add] using World.cell?_spot hc
      subst hspot
      have hc' : w.cell? ⟨b, off, none⟩ = some (.string (zs.getD 0 ByteArray.empty)) := by simpa [Addr.add] using hc
      refine ⟨b, off, rfl, cell_block hc', fun i y hy => ?_⟩
      rw [List.getElem?_take] at hy
      split at hy
      · have hi := (List.getElem?_eq_some_iff.1 hy).1
        have := h4 i hi
        rw [List.getD_eq_getElem?_getD, hy, add_at] at this
        exact this
      · cases hy

theorem TextsAt.below {w w' : World} {a : Option Addr} {l : List ByteArray} {B : Nat} (h : TextsAt w a l) (hb : Below B w w') (hB : w.heap.size ≤ B) : TextsAt w' a l := by
  rcases h with h | ⟨b, o, rfl, h1, h2⟩
  · exact .inl h
  · exact .inr ⟨b, o, rfl, Nat.lt_of_lt_of_le h1 hb.size, fun i x hx => (hb.cell (p := ⟨b, o + i, none⟩) (Nat.lt_of_lt_of_le h1 hB)).trans (h2 i x hx)⟩

theorem TextsAt.cellAt {w : World} {a : Option Addr} {l : List ByteArray} (h : TextsAt w a l) {k : Nat} {x : ByteArray} (hx : l[k]? = some x) :
    ∃ b o, a = some ⟨b, o, none⟩ ∧ b < w.heap.size ∧ w.cell? ⟨b, o + k, none⟩ = some (.string x) := by
  rcases h with rfl | ⟨b, o, h1, h2, h3⟩
  · simp at hx
  · exact ⟨b, o, h1, h2, h3 k x hx⟩

theorem infoText : (Tryd.prog.info? 9).map (fun i => (i.zero, i.size, i.bytes)) = some (some (.string ByteArray.empty), 1, 16) := by kernel_rfl
/-- A slice of texts of the call's own. -/
def OwnTexts (B : Nat) (v : Value) (l : List ByteArray) (w : World) : Prop := w.ownsRow B 9 1 v l.length (l.map Value.string)
theorem OwnTexts.at {B : Nat} {v : Value} {l : List ByteArray} {w : World} (h : OwnTexts B v l w) : ∃ a cap, v = .slice a l.length cap ∧ TextsAt w a l ∧ l.length ≤ cap := by
  rcases h.2 with ⟨h1, h2⟩ | ⟨g, cap, cur, hv, hg, hh, hn, hc, hs, ht⟩
  · exact ⟨none, 0, by rw [h1, h2], .inl (List.eq_nil_of_length_eq_zero h2), by omega⟩
  · refine ⟨some ⟨g, 0, none⟩, cap, hv, .inr ⟨g, 0, rfl, ?_, fun i x hx => ?_⟩, hn⟩
    · rcases Nat.lt_or_ge g w.heap.size with h' | h'
      · exact h'
      · rw [Array.getElem?_eq_none h'] at hh; cases hh
    · have := h.cells (g := g) (by rw [hv]; rfl) i (.string x) (by simp [hx])
      rw [add_at] at this
      exact this

/-- How many letters all texts have. -/
def tot (l : List ByteArray) : Nat := (l.map (·.size)).sum
theorem tot_snoc (l : List ByteArray) (x : ByteArray) : tot (l ++ [x]) = tot l + x.size := by simp [tot]
theorem tot_take (l : List ByteArray) (k : Nat) (x : ByteArray) (h : l[k]? = some x) : tot (l.take (k + 1)) = tot (l.take k) + x.size := by
  have := List.getElem?_eq_some_iff.1 h
  rw [List.take_succ_eq_append_getElem this.1, tot_snoc, this.2]
theorem tot_take_le (l : List ByteArray) (k : Nat) : tot (l.take k) ≤ tot l := by
  have h := congrArg tot (List.take_append_drop k l).symm
  have : tot (l.take k ++ l.drop k) = tot (l.take k) + tot (l.drop k) := by unfold tot; rw [List.map_append, List.sum_append]
  omega


/-- A copy of the call's own. -/
def CopyEnd (l : List ByteArray) (w : World) (e : Ending) (w' : World) : Prop := ∃ v, e = .returned v ∧ OwnTexts w.heap.size v l w' ∧ Below w.heap.size w w'
def filled (l : List ByteArray) (k : Nat) : List Value := (l.take k).map Value.string ++ List.replicate (l.length - k) (.string ByteArray.empty)
theorem filled_get (l : List ByteArray) (k : Nat) (h : k < l.length) : (filled l k)[k]? = some (.string ByteArray.empty) := by
  unfold filled
  rw [List.getElem?_append_right (by simp; omega)]
  simp [List.getElem?_replicate]; omega
theorem filled_set (l : List ByteArray) (k : Nat) (x : ByteArray) (h : l[k]? = some x) : (filled l k).set k (.string x) = filled l (k + 1) := by
  have hk := List.getElem?_eq_some_iff.1 h
  unfold filled
  rw [List.take_succ_eq_append_getElem hk.1, hk.2, List.map_append, List.set_append_right _ _ (by simp; omega)]
  have e : l.length - k = (l.length - (k + 1)) + 1 := by have := hk.1; omega
  rw [e, List.replicate_succ]
  simp [List.length_take, Nat.min_eq_left (Nat.le_of_lt hk.1)]
theorem filled_end (l : List ByteArray) : filled l l.length = l.map Value.string := by simp [filled]


end Go.Proofs.YtopdaocamjfbdaaDoor

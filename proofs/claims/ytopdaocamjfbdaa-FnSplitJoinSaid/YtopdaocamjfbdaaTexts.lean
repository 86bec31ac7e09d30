/- Slices of texts: what came in, what the call made; the walks of the laws' helpers over them. -/
import Derived.Test.YtopdaocamjfbdaaProg
import Derived.WalkKit
import Derived.WalkLawsBesides
import Derived.Below
import Derived.OwnWalk
import Derived.Maps.AppendAt
import Derived.WalkSpells
import Derived.Lib.Hide
import Derived.Deep.QuietTactic
import Derived.BigQuiet
import Derived.Outline
namespace Go.Proofs.Ytopdaocamjfbdaa
open Go.RowKit
set_option linter.unusedVariables false

/-- What a walk is told of a slice of texts that came in. -/
def IsTexts (w : World) (a : Option Addr) (len cap : Nat) (zs : List ByteArray) : Prop :=
  (a = none ∧ len = 0 ∧ cap = 0 ∧ zs = []) ∨
  ∃ x, a = some x ∧ len ≤ cap ∧ cap ≤ maxLen ∧ zs.length = cap ∧ (∀ i, i < zs.length → w.cell? (x.add i) = some (.string (zs.getD i ByteArray.empty))) ∧ ∀ s ∈ zs, s.size ≤ maxLen

/-- The texts of a slice lie at its address, one a cell. -/
def TextsAt (w : World) (a : Option Addr) (l : List ByteArray) : Prop :=
  l = [] ∨ ∃ b o, a = some ⟨b, o, none⟩ ∧ b < w.heap.size ∧ ∀ i x, l[i]? = some x → w.cell? ⟨b, o + i, none⟩ = some (.string x)

theorem add_at (b o i : Nat) : (⟨b, o, none⟩ : Addr).add i = ⟨b, o + i, none⟩ := by
  by_cases h : i = 0
  · subst h; simp [Addr.add]
  · simp [Addr.add, h]
theorem cell_block {w : World} {b o : Nat} {v : Value} (h : w.cell? ⟨b, o, none⟩ = some v) : b < w.heap.size := by
  rcases Nat.lt_or_ge b w.heap.size with h' | h'
  · exact h'
  · simp [World.cell?, Array.getElem?_eq_none h'] at h

theorem textsAt_of {w : World} {a : Option Addr} {len cap : Nat} {zs : List ByteArray} (h : IsTexts w a len cap zs) :
    ∃ l : List ByteArray, l.length = len ∧ TextsAt w a l ∧ (∀ s ∈ l, s.size ≤ maxLen) ∧ len ≤ maxLen := by
  rcases h with ⟨rfl, rfl, rfl, rfl⟩ | ⟨x, rfl, h1, h2, h3, h4, h5⟩
  · exact ⟨[], rfl, .inl rfl, by simp, Nat.zero_le _⟩
  · refine ⟨zs.take len, by simp; omega, ?_, fun s hs => h5 s (List.mem_of_mem_take hs), Nat.le_trans h1 h2⟩
    by_cases h0 : len = 0
    · left; simp [h0]
    · right
      obtain ⟨b, off, spot⟩ := x
      have hc := h4 0 (by omega)
      have hspot : spot = none := by simpa [Addr.add] using World.cell?_spot hc
      subst hspot
      have hc' : w.cell? ⟨b, off, none⟩ = some (.string (zs.getD 0 ByteArray.empty)) := by simpa [Addr.add] using hc
      refine ⟨b, off, rfl, cell_block hc', fun i y hy => ?_⟩
      rw [List.getElem?_take] at hy
      split at hy
      · have hi := (List.getElem?_eq_some_iff.1 hy).1
        have := h4 i hi
        rw [List.getD_eq_getElem?_getD, hy, add_at] at this
        exact this
      · cases hy

theorem TextsAt.below {w w' : World} {a : Option Addr} {l : List ByteArray} {B : Nat} (h : TextsAt w a l) (hb : Below B w w') (hB : w.heap.size ≤ B) : TextsAt w' a l := by
  rcases h with h | ⟨b, o, rfl, h1, h2⟩
  · exact .inl h
  · exact .inr ⟨b, o, rfl, Nat.lt_of_lt_of_le h1 hb.size, fun i x hx => (hb.cell (p := ⟨b, o + i, none⟩) (Nat.lt_of_lt_of_le h1 hB)).trans (h2 i x hx)⟩

theorem TextsAt.cellAt {w : World} {a : Option Addr} {l : List ByteArray} (h : TextsAt w a l) {k : Nat} {x : ByteArray} (hx : l[k]? = some x) :
    ∃ b o, a = some ⟨b, o, none⟩ ∧ b < w.heap.size ∧ w.cell? ⟨b, o + k, none⟩ = some (.string x) := by
  rcases h with rfl | ⟨b, o, h1, h2, h3⟩
  · simp at hx
  · exact ⟨b, o, h1, h2, h3 k x hx⟩

theorem infoText : (Try.prog.info? 9).map (fun i => (i.zero, i.size, i.bytes)) = some (some (.string ByteArray.empty), 1, 16) := by kernel_rfl
/-- A slice of texts of the call's own. -/
def OwnTexts (B : Nat) (v : Value) (l : List ByteArray) (w : World) : Prop := w.ownsRow B 9 1 v l.length (l.map Value.string)
theorem OwnTexts.at {B : Nat} {v : Value} {l : List ByteArray} {w : World} (h : OwnTexts B v l w) : ∃ a cap, v = .slice a l.length cap ∧ TextsAt w a l ∧ l.length ≤ cap := by
  rcases h.2 with ⟨h1, h2⟩ | ⟨g, cap, cur, hv, hg, hh, hn, hc, hs, ht⟩
  · exact ⟨none, 0, by rw [h1, h2], .inl (List.eq_nil_of_length_eq_zero h2), by omega⟩
  · refine ⟨some ⟨g, 0, none⟩, cap, hv, .inr ⟨g, 0, rfl, ?_, fun i x hx => ?_⟩, hn⟩
    · rcases Nat.lt_or_ge g w.heap.size with h' | h'
      · exact h'
      · rw [Array.getElem?_eq_none h'] at hh; cases hh
    · have := h.cells (g := g) (by rw [hv]; rfl) i (.string x) (by simp [hx])
      rw [add_at] at this
      exact this

/-- How many letters all texts have. -/
def tot (l : List ByteArray) : Nat := (l.map (·.size)).sum
theorem tot_snoc (l : List ByteArray) (x : ByteArray) : tot (l ++ [x]) = tot l + x.size := by simp [tot]
theorem tot_take (l : List ByteArray) (k : Nat) (x : ByteArray) (h : l[k]? = some x) : tot (l.take (k + 1)) = tot (l.take k) + x.size := by
  have := List.getElem?_eq_some_iff.1 h
  rw [List.take_succ_eq_append_getElem this.1, tot_snoc, this.2]
theorem tot_take_le (l : List ByteArray) (k : Nat) : tot (l.take k) ≤ tot l := by
  have h := congrArg tot (List.take_append_drop k l).symm
  have : tot (l.take k ++ l.drop k) = tot (l.take k) + tot (l.drop k) := by unfold tot; rw [List.map_append, List.sum_append]
  omega

def SzEnd (l : List ByteArray) (left : Int) (w : World) (e : Ending) (w' : World) : Prop := ∃ r : Int, e = .returned (.int .i64 r) ∧ (r = -1 ∨ (0 ≤ r ∧ r + l.length + tot l = left)) ∧ w = w'
set_option maxHeartbeats 1000000 in
theorem szTexts (w : World) (a : Option Addr) (l : List ByteArray) (cap : Nat) (h : TextsAt w a l) (hl : l.length ≤ 9223372036854775807) (hm : ∀ s ∈ l, s.size ≤ 9223372036854775807) :
    Calls Try.prog 21 #[.slice a l.length cap, .int .i64 1048576] w (SzEnd l 1048576 w) := by
  by_cases hbig : l.length ≤ 1048576
  · have HM := Lib.hid hm
    have HT := Lib.hid h
    clear hm h
    go_enter Try.func21, Try.ntmps21
    go_wp2
    go_loop [1, 5] (fun left i => ∃ (k : Nat) (r : Int), k ≤ l.length ∧ i = .int .i64 k ∧ left = .int .i64 r ∧ 0 ≤ r ∧ Hid (r + l.length + tot (l.take k) = 1048576)) (fun _ i => l.length - (intOf i).toNat)
    case atStart => exact ⟨0, _, Nat.zero_le _, rfl, rfl, by omega, by show _ = _; simp [tot]⟩
    case round =>
      obtain ⟨k, r, hk, rfl, rfl, hr, HR⟩ := hrel
      have hr2 : r ≤ 1048576 := by have := HR.out; omega
      by_cases hlt : k < l.length
      · obtain ⟨x, hx⟩ : ∃ x, l[k]? = some x := ⟨_, List.getElem?_eq_getElem hlt⟩
        have hxs : (x.size : Int) ≤ 9223372036854775807 := by have := HM.out x (List.mem_of_getElem? hx); omega
        have ht := tot_take l k x hx
        have HTT := Lib.hid ht
        obtain ⟨b, o, rfl, hb, hcell⟩ : ∃ b o, a = some ⟨b, o, none⟩ ∧ b < w.heap.size ∧ w.cell? ⟨b, o + k, none⟩ = some (.string x) := by
          rcases HT.out with h0 | ⟨b, o, h1, h2, h3⟩
          · rw [h0] at hlt; simp at hlt
          · exact ⟨b, o, h1, h2, h3 k x hx⟩
        clear ht hx
        go_wp2
        all_goals first
          | (go_ret; exact ⟨-1, rfl, .inl rfl, rfl⟩)
          | (go_round
             case rel => exact ⟨k + 1, _, by omega, by go_num, rfl, by omega, by have h1 := HR.out; have h2 := HTT.out; show _ = _; omega⟩
             case measure => simp [intOf]; omega)
      · have h1 := HR.out
        rw [List.take_of_length_le (by omega)] at h1
        have H1 := Lib.hid h1
        clear h1
        go_wp2
        go_ret
        exact ⟨r, rfl, .inr ⟨hr, H1.out⟩, rfl⟩
  · go_enter Try.func21, Try.ntmps21
    go_wp2
    go_ret
    exact ⟨-1, rfl, .inl rfl, rfl⟩

/-- A copy of the call's own. -/
def CopyEnd (l : List ByteArray) (w : World) (e : Ending) (w' : World) : Prop := ∃ v, e = .returned v ∧ OwnTexts w.heap.size v l w' ∧ Below w.heap.size w w'
def filled (l : List ByteArray) (k : Nat) : List Value := (l.take k).map Value.string ++ List.replicate (l.length - k) (.string ByteArray.empty)
theorem filled_get (l : List ByteArray) (k : Nat) (h : k < l.length) : (filled l k)[k]? = some (.string ByteArray.empty) := by
  unfold filled
  rw [List.getElem?_append_right (by simp; omega)]
  simp [List.getElem?_replicate]; omega
theorem filled_set (l : List ByteArray) (k : Nat) (x : ByteArray) (h : l[k]? = some x) : (filled l k).set k (.string x) = filled l (k + 1) := by
  have hk := List.getElem?_eq_some_iff.1 h
  unfold filled
  rw [List.take_succ_eq_append_getElem hk.1, hk.2, List.map_append, List.set_append_right _ _ (by simp; omega)]
  have e : l.length - k = (l.length - (k + 1)) + 1 := by have := hk.1; omega
  rw [e, List.replicate_succ]
  simp [List.length_take, Nat.min_eq_left (Nat.le_of_lt hk.1)]
theorem filled_end (l : List ByteArray) : filled l l.length = l.map Value.string := by simp [filled]

set_option maxHeartbeats 1000000 in
theorem copyTexts (w : World) (a : Option Addr) (l : List ByteArray) (cap : Nat) (h : TextsAt w a l) (hl : l.length ≤ 1048576) :
    Calls Try.prog 22 #[.slice a l.length cap] w (CopyEnd l w) := by
  obtain ⟨i0, hi, hz0, hz1, hz2⟩ := info_parts infoText
  obtain ⟨w1, hmk, hown0, hg0⟩ := run_make_full (P := Try.prog) w w.heap.size 26 9 i0 (.string ByteArray.empty) 1 Try.underlying26 hi hz0 hz1 .i64 .i64 l.length (by rw [hz2]; omega) (by unfold maxLen; omega) (Nat.le_refl _)
  have hb0 : Below w.heap.size w w1 := (Below.refl _ _).grown hg0 (Nat.le_refl _) (by simp)
  have hstart : w1.ownsRow w.heap.size 9 1 (.slice (some ⟨w.heap.size, 0, none⟩) l.length l.length) l.length (filled l 0) := by
    have e : (madeCells (Value.string ByteArray.empty).cells (l.length * 1)).toList = filled l 0 := by
      rw [Nat.mul_one]; show (madeCells #[Value.string ByteArray.empty] l.length).toList = _
      rw [toList_madeCells_one]; simp [filled]
    rw [← e]; exact hown0
  have HT := Lib.hid h
  have HS := Lib.hid hstart
  clear hown0 hg0 hstart h hi hz0 hz1 hz2
  go_enter Try.func22, Try.ntmps22
  go_wp2
  clear hmk
  go_loopw [4] (fun i wr => ∃ k : Nat, k ≤ l.length ∧ i = .int .i64 k ∧ Hid (wr.ownsRow w.heap.size 9 1 (.slice (some ⟨w.heap.size, 0, none⟩) l.length l.length) l.length (filled l k)) ∧ Below w.heap.size w wr) (fun i _ => l.length - (intOf i).toNat)
  case atStart => exact ⟨0, Nat.zero_le _, rfl, HS.out, hb0⟩
  case round =>
    obtain ⟨k, hk, rfl, HO, hb⟩ := hrel
    by_cases hlt : k < l.length
    · obtain ⟨x, hx⟩ : ∃ x, l[k]? = some x := ⟨_, List.getElem?_eq_getElem hlt⟩
      obtain ⟨b, o, rfl, hbl, hcell⟩ : ∃ b o, a = some ⟨b, o, none⟩ ∧ b < w.heap.size ∧ w.cell? ⟨b, o + k, none⟩ = some (.string x) := by
        rcases HT.out with h0 | ⟨b, o, h1, h2, h3⟩
        · rw [h0] at hlt; simp at hlt
        · exact ⟨b, o, h1, h2, h3 k x hx⟩
      have hcell2 : wr.cell? ⟨b, o + k, none⟩ = some (.string x) := (hb.cell (p := ⟨b, o + k, none⟩) hbl).trans hcell
      have hc2 : wr.cell? ⟨w.heap.size, k, none⟩ = some (.string ByteArray.empty) := (HO.out.cellAt k (by omega)).trans (filled_get l k hlt)
      have hf2 := HO.out.frozenAt k
      have hst := (HO.out.stored k (.string x)).1
      rw [filled_set l k x hx] at hst
      have HST := Lib.hid hst
      clear hst hcell hx
      go_wp2
      go_roundw
      case rel => exact ⟨k + 1, by omega, by go_num, HST.out, hb.setCell (p := ⟨w.heap.size, k, none⟩) (Nat.le_refl _) _⟩
      case measure => simp [intOf]; omega
    · obtain rfl : k = l.length := by omega
      go_wp2
      go_ret
      exact ⟨_, rfl, by unfold OwnTexts; rw [← filled_end]; exact HO.out, hb⟩

end Go.Proofs.Ytopdaocamjfbdaa

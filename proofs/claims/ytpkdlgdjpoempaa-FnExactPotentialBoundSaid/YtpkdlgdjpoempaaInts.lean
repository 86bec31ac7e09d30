/- Slices of numbers: what came in, what the call made; the walks of the laws' helpers over them. -/
import Derived.Test.YtpkdlgdjpoempaaProg
import Derived.WalkKit
import Derived.WalkLawsBesides
import Derived.Below
import Derived.OwnWalk
import Derived.Maps.AppendAt
import Derived.WalkSpells
import Derived.Lib.Hide
import Derived.Deep.QuietTactic
import Derived.BigQuiet
import Derived.Outline
namespace Go.Proofs.Ytpkdlgdjpoempaa
open Go.RowKit
set_option linter.unusedVariables false

/-- The numbers of a slice lie at its address, one a cell. -/
def IntsAt (w : World) (a : Option Addr) (l : List Int) : Prop :=
  l = [] ∨ ∃ b o, a = some ⟨b, o, none⟩ ∧ b < w.heap.size ∧ ∀ i x, l[i]? = some x → w.cell? ⟨b, o + i, none⟩ = some (.int .i64 x)
theorem IntsAt.below {w w' : World} {a : Option Addr} {l : List Int} {B : Nat} (h : IntsAt w a l) (hb : Below B w w') (hB : w.heap.size ≤ B) : IntsAt w' a l := by
  rcases h with h | ⟨b, o, rfl, h1, h2⟩
  · exact .inl h
  · exact .inr ⟨b, o, rfl, Nat.lt_of_lt_of_le h1 hb.size, fun i x hx => (hb.cell (p := ⟨b, o + i, none⟩) (Nat.lt_of_lt_of_le h1 hB)).trans (h2 i x hx)⟩
theorem IntsAt.cellAt {w : World} {a : Option Addr} {l : List Int} (h : IntsAt w a l) {k : Nat} {x : Int} (hx : l[k]? = some x) :
    ∃ b o, a = some ⟨b, o, none⟩ ∧ b < w.heap.size ∧ w.cell? ⟨b, o + k, none⟩ = some (.int .i64 x) := by
  rcases h with rfl | ⟨b, o, h1, h2, h3⟩
  · simp at hx
  · exact ⟨b, o, h1, h2, h3 k x hx⟩
theorem infoInt : (Try.prog.info? 3).map (fun i => (i.zero, i.size, i.bytes)) = some (some (.int .i64 0), 1, 8) := by kernel_rfl
def vals (l : List Int) : List Value := l.map (Value.int .i64)
/-- A slice of numbers of the call's own. -/
def OwnInts (B : Nat) (v : Value) (l : List Int) (w : World) : Prop := w.ownsRow B 3 1 v l.length (vals l)
theorem addI (b o i : Nat) : (⟨b, o, none⟩ : Addr).add i = ⟨b, o + i, none⟩ := by
  by_cases h : i = 0
  · subst h; simp [Addr.add]
  · simp [Addr.add, h]
theorem OwnInts.at {B : Nat} {v : Value} {l : List Int} {w : World} (h : OwnInts B v l w) : ∃ a cap, v = .slice a l.length cap ∧ IntsAt w a l ∧ l.length ≤ cap := by
  rcases h.2 with ⟨h1, h2⟩ | ⟨g, cap, cur, hv, hg, hh, hn, hc, hs, ht⟩
  · exact ⟨none, 0, by rw [h1, h2], .inl (List.eq_nil_of_length_eq_zero h2), by omega⟩
  · refine ⟨some ⟨g, 0, none⟩, cap, hv, .inr ⟨g, 0, rfl, ?_, fun i x hx => ?_⟩, hn⟩
    · rcases Nat.lt_or_ge g w.heap.size with h' | h'
      · exact h'
      · rw [Array.getElem?_eq_none h'] at hh; cases hh
    · have := h.cells (g := g) (by rw [hv]; rfl) i (.int .i64 x) (by simp [vals, hx])
      rw [addI] at this
      exact this

set_option maxHeartbeats 1000000 in
theorem szInts (w : World) (a : Option Addr) (n cap : Nat) (left : Int) (h0 : 0 ≤ left) (h1 : left ≤ 1048576) (hn : n ≤ 9223372036854775807) :
    Calls Try.prog 64 #[.slice a n cap, .int .i64 left] w fun e w' => e = .returned (.int .i64 (if (n : Int) ≤ left then left - n else -1)) ∧ w' = w := by
  by_cases hbig : (n : Int) ≤ left
  · rw [if_pos hbig]
    go_enter Try.func64, Try.ntmps64
    go_wp2
    go_ret
    exact ⟨rfl, rfl⟩
  · rw [if_neg hbig]
    go_enter Try.func64, Try.ntmps64
    go_wp2
    go_ret
    exact ⟨rfl, rfl⟩

def ifill (l : List Int) (k : Nat) : List Int := l.take k ++ List.replicate (l.length - k) 0
theorem ifill_get (l : List Int) (k : Nat) (h : k < l.length) : (vals (ifill l k))[k]? = some (.int .i64 0) := by
  unfold vals ifill
  rw [List.getElem?_map, List.getElem?_append_right (by simp; omega)]
  simp [List.getElem?_replicate]; omega
theorem ifill_set (l : List Int) (k : Nat) (x : Int) (h : l[k]? = some x) : (vals (ifill l k)).set k (.int .i64 x) = vals (ifill l (k + 1)) := by
  have hk := List.getElem?_eq_some_iff.1 h
  unfold vals ifill
  rw [← List.map_set, List.take_succ_eq_append_getElem hk.1, hk.2, List.set_append_right _ _ (by simp; omega)]
  have e : l.length - k = (l.length - (k + 1)) + 1 := by have := hk.1; omega
  rw [e, List.replicate_succ]
  simp [List.length_take, Nat.min_eq_left (Nat.le_of_lt hk.1)]
theorem ifill_end (l : List Int) : ifill l l.length = l := by simp [ifill]

def ICopyEnd (l : List Int) (w : World) (e : Ending) (w' : World) : Prop := ∃ v, e = .returned v ∧ OwnInts w.heap.size v l w' ∧ Below w.heap.size w w'
set_option maxHeartbeats 1000000 in
theorem copyInts (w : World) (a : Option Addr) (l : List Int) (cap : Nat) (h : IntsAt w a l) (hl : l.length ≤ 1048576) :
    Calls Try.prog 17 #[.slice a l.length cap] w (ICopyEnd l w) := by
  obtain ⟨i0, hi, hz0, hz1, hz2⟩ := info_parts infoInt
  obtain ⟨w1, hmk, hown0, hg0⟩ := run_make_full (P := Try.prog) w w.heap.size 32 3 i0 (.int .i64 0) 1 Try.underlying32 hi hz0 hz1 .i64 .i64 l.length (by rw [hz2]; omega) (by unfold maxLen; omega) (Nat.le_refl _)
  have hb0 : Below w.heap.size w w1 := (Below.refl _ _).grown hg0 (Nat.le_refl _) (by simp)
  have hstart : w1.ownsRow w.heap.size 3 1 (.slice (some ⟨w.heap.size, 0, none⟩) l.length l.length) l.length (vals (ifill l 0)) := by
    have e : (madeCells (Value.int .i64 0).cells (l.length * 1)).toList = vals (ifill l 0) := by
      rw [Nat.mul_one]; show (madeCells #[Value.int .i64 0] l.length).toList = _
      rw [toList_madeCells_one]; simp [vals, ifill]
    rw [← e]; exact hown0
  have HT := Lib.hid h
  have HS := Lib.hid hstart
  clear hown0 hg0 hstart h hi hz0 hz1 hz2
  go_enter Try.func17, Try.ntmps17
  go_wp2
  clear hmk
  go_loopw [4] (fun i wr => ∃ k : Nat, k ≤ l.length ∧ i = .int .i64 k ∧ Hid (wr.ownsRow w.heap.size 3 1 (.slice (some ⟨w.heap.size, 0, none⟩) l.length l.length) l.length (vals (ifill l k))) ∧ Below w.heap.size w wr) (fun i _ => l.length - (intOf i).toNat)
  case atStart => exact ⟨0, Nat.zero_le _, rfl, HS.out, hb0⟩
  case round =>
    obtain ⟨k, hk, rfl, HO, hb⟩ := hrel
    by_cases hlt : k < l.length
    · obtain ⟨x, hx⟩ : ∃ x, l[k]? = some x := ⟨_, List.getElem?_eq_getElem hlt⟩
      obtain ⟨b, o, rfl, hbl, hcell2⟩ := (HT.out.below hb (Nat.le_refl _)).cellAt hx
      have hc2 : wr.cell? ⟨w.heap.size, k, none⟩ = some (.int .i64 0) := (HO.out.cellAt k (by omega)).trans (ifill_get l k hlt)
      have hf2 := HO.out.frozenAt k
      have hst := (HO.out.stored k (.int .i64 x)).1
      rw [ifill_set l k x hx] at hst
      have HST := Lib.hid hst
      clear hst hx
      go_wp2
      go_roundw
      case rel => exact ⟨k + 1, by omega, by go_num, HST.out, hb.setCell (p := ⟨w.heap.size, k, none⟩) (Nat.le_refl _) _⟩
      case measure => simp [intOf]; omega
    · obtain rfl : k = l.length := by omega
      go_wp2
      go_ret
      exact ⟨_, rfl, by unfold OwnInts; rw [ifill_end] at HO; exact HO.out, hb⟩

set_option maxHeartbeats 1000000 in
theorem eqInts (w : World) (a1 a2 : Option Addr) (l : List Int) (c1 c2 : Nat) (h1 : IntsAt w a1 l) (h2 : IntsAt w a2 l) (hl : l.length ≤ 9223372036854775807) :
    Calls Try.prog 19 #[.slice a1 l.length c1, .slice a2 l.length c2] w fun e w' => e = .returned (.bool true) ∧ Below w.heap.size w w' := by
  have H1 := Lib.hid h1
  have H2 := Lib.hid h2
  clear h1 h2
  go_enter Try.func19, Try.ntmps19
  go_wp2
  go_loopw [5] (fun i wr => ∃ k : Nat, k ≤ l.length ∧ i = .int .i64 k ∧ Below w.heap.size w wr) (fun i _ => l.length - (intOf i).toNat)
  case atStart => exact ⟨0, Nat.zero_le _, rfl, Below.refl _ _⟩
  case round =>
    obtain ⟨k, hk, rfl, hb⟩ := hrel
    by_cases hlt : k < l.length
    · obtain ⟨x, hx⟩ : ∃ x, l[k]? = some x := ⟨_, List.getElem?_eq_getElem hlt⟩
      obtain ⟨b1, o1, rfl, _, hc1⟩ := (H1.out.below hb (Nat.le_refl _)).cellAt hx
      obtain ⟨b2, o2, rfl, _, hc2⟩ := (H2.out.below hb (Nat.le_refl _)).cellAt hx
      have hk0 : (0 : Int) ≤ (k : Int) := by omega
      have hkl : (k : Int) < (l.length : Int) := by omega
      clear hx
      go_wp2_with fail
      go_quiet (fail)
      go_wp2
      go_roundw
      case rel => exact ⟨k + 1, by omega, by go_num, Go.below_drewN hb nq⟩
      case measure => simp [intOf]; omega
    · go_wp2
      go_ret
      exact ⟨rfl, hb⟩
end Go.Proofs.Ytpkdlgdjpoempaa

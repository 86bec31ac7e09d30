/- A slice of pairs is copied. -/
import Derived.Test.YtpkdlgdjpoempaaPairs2
namespace Go.Proofs.Ytpkdlgdjpoempaa
open Go.RowKit
set_option linter.unusedVariables false

theorem infoTwo : (Try.prog.info? 67).map (fun i => (i.zero, i.size, i.bytes)) = some (some (.agg #[.int .i64 0, .int .i64 0]), 2, 16) := by kernel_rfl
def pfill (l : List (Int × Int)) (k : Nat) : List (Int × Int) := l.take k ++ List.replicate (l.length - k) (0, 0)
theorem pfill_length (l : List (Int × Int)) (k : Nat) (h : k ≤ l.length) : (pfill l k).length = l.length := by simp [pfill]; omega
theorem pfill_get (l : List (Int × Int)) (k : Nat) (h : k < l.length) : (pfill l k)[k]? = some (0, 0) := by
  unfold pfill
  rw [List.getElem?_append_right (by simp; omega)]
  simp [List.getElem?_replicate]; omega
theorem pfill_set (l : List (Int × Int)) (k : Nat) (x : Int × Int) (h : l[k]? = some x) : (pfill l k).set k x = pfill l (k + 1) := by
  have hk := List.getElem?_eq_some_iff.1 h
  unfold pfill
  rw [List.take_succ_eq_append_getElem hk.1, hk.2, List.set_append_right _ _ (by simp; omega)]
  have e : l.length - k = (l.length - (k + 1)) + 1 := by have := hk.1; omega
  rw [e, List.replicate_succ]
  simp [List.length_take, Nat.min_eq_left (Nat.le_of_lt hk.1)]
theorem pfill_end (l : List (Int × Int)) : pfill l l.length = l := by simp [pfill]
theorem flat2_zero (n : Nat) : flat2 (List.replicate n (0, 0)) = List.replicate (n * 2) (.int .i64 0) := by
  induction n with
  | zero => rfl
  | succ n ih =>
    rw [List.replicate_succ]
    show [_, _] ++ flat2 _ = _
    rw [ih, show (n + 1) * 2 = n * 2 + 1 + 1 by omega, List.replicate_succ, List.replicate_succ]; rfl
theorem made_two (n : Nat) : (madeCells (Value.agg #[.int .i64 0, .int .i64 0]).cells (n * 2)).toList = flat2 (List.replicate n (0, 0)) := by
  rw [flat2_zero]
  show (madeCells #[Value.int .i64 0, .int .i64 0] (n * 2)).toList = _
  apply List.ext_getElem
  · simp [madeCells]
  · intro j h1 h2
    have h3 : j % 2 = 0 ∨ j % 2 = 1 := by omega
    rcases h3 with h3 | h3 <;> simp [madeCells, h3]

def PCopyEnd (l : List (Int × Int)) (w : World) (e : Ending) (w' : World) : Prop := ∃ v, e = .returned v ∧ OwnPairs w.heap.size v l w' ∧ Below w.heap.size w w'
set_option maxHeartbeats 1000000 in
theorem copyPairs (w : World) (a : Option Addr) (l : List (Int × Int)) (cap : Nat) (h : PairsAt w a l) (hl : l.length ≤ 1048576) :
    Calls Try.prog 39 #[.slice a l.length cap] w (PCopyEnd l w) := by
  obtain ⟨i0, hi, hz0, hz1, hz2⟩ := info_parts infoTwo
  obtain ⟨w1, hmk, hown0, hg0⟩ := run_make_full (P := Try.prog) w w.heap.size 23 67 i0 (.agg #[.int .i64 0, .int .i64 0]) 2 Try.underlying23 hi hz0 hz1 .i64 .i64 l.length (by rw [hz2]; omega) (by unfold maxLen; omega) (Nat.le_refl _)
  have hb0 : Below w.heap.size w w1 := (Below.refl _ _).grown hg0 (Nat.le_refl _) (by simp)
  have hstart : w1.ownsRow w.heap.size 67 2 (.slice (some ⟨w.heap.size, 0, none⟩) l.length l.length) l.length (flat2 (pfill l 0)) := by
    rw [made_two] at hown0
    have e : pfill l 0 = List.replicate l.length (0, 0) := by simp [pfill]
    rw [e]; exact hown0
  have HT := Lib.hid h
  have HS := Lib.hid hstart
  clear hown0 hg0 hstart h hi hz0 hz1 hz2
  go_enter Try.func39, Try.ntmps39
  go_wp2
  clear hmk
  go_loopw [4] (fun i wr => ∃ k : Nat, k ≤ l.length ∧ i = .int .i64 k ∧ Hid (wr.ownsRow w.heap.size 67 2 (.slice (some ⟨w.heap.size, 0, none⟩) l.length l.length) l.length (flat2 (pfill l k))) ∧ Below w.heap.size w wr) (fun i _ => l.length - (intOf i).toNat)
  case atStart => exact ⟨0, Nat.zero_le _, rfl, HS.out, hb0⟩
  case round =>
    obtain ⟨k, hk, rfl, HO, hb⟩ := hrel
    by_cases hlt : k < l.length
    · obtain ⟨x, hx⟩ : ∃ x, l[k]? = some x := ⟨_, List.getElem?_eq_getElem hlt⟩
      obtain ⟨b, o, rfl, hbl, hcell, hcell'⟩ := (HT.out.below hb (Nat.le_refl _)).cellAt hx
      have HX := Lib.hid hx
      clear hx
      go_wp2_with fail
      refine (toPair wr x).mono ?_
      rintro e w2 ⟨rfl, hb2⟩
      have hr2 := HO.out.kept (w' := w2) (row := none) ⟨hb2.os, hb2.tape, hb2.output, hb2.size, fun k hk _ => hb2.block k hk⟩ (.inr (by simp [Value.ownBlock]))
      have hz := flat2_get (pfill l k) k _ (pfill_get l k hlt)
      have hlen2 : l.length * 2 = l.length + l.length := by omega
      have hc0 : w2.cell? ⟨w.heap.size, k * 2, none⟩ = some (.int .i64 0) := (hr2.cellAt (k * 2) (by omega)).trans hz.1
      have hc1 : w2.cell? ⟨w.heap.size, k * 2 + 1, none⟩ = some (.int .i64 0) := (hr2.cellAt (k * 2 + 1) (by omega)).trans hz.2
      have hf0 := hr2.frozenAt (k * 2)
      have hf1 := hr2.frozenAt (k * 2 + 1)
      have hst := ((hr2.stored (k * 2) (.int .i64 x.1)).1.stored (k * 2 + 1) (.int .i64 x.2)).1
      rw [flat2_set, pfill_set l k x HX.out] at hst
      have HST := Lib.hid hst
      have hb3 := hb.trans (hb2.mono hb.size)
      clear hst hr2 hb2 hz hcell hcell'
      obtain ⟨x0, x1⟩ := x
      simp only at *
      go_wp2
      go_roundw
      case rel => exact ⟨k + 1, by omega, by go_num, HST.out, (hb3.setCell (p := ⟨w.heap.size, k * 2, none⟩) (Nat.le_refl _) _).setCell (p := ⟨w.heap.size, k * 2 + 1, none⟩) (Nat.le_refl _) _⟩
      case measure => simp [intOf]; omega
    · obtain rfl : k = l.length := by omega
      go_wp2
      go_ret
      exact ⟨_, rfl, by unfold OwnPairs; rw [pfill_end] at HO; exact HO.out, hb⟩
end Go.Proofs.Ytpkdlgdjpoempaa

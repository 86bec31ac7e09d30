/- The laws' draws: SplitString's, LessString's and JoinStrings' arguments. -/
import Derived.Test.YtopdaocamjfbdaaCur2
import Derived.Test.YtopdaocamjfbdaaTexts
import Derived.Laws.IdiomStrings
namespace Go.Proofs.Ytopdaocamjfbdaa
open Go.RowKit
set_option linter.unusedVariables false

theorem codeAt_of {w : World} {a : Option Addr} {len cap : Nat} {zs : List Int} (h : IsRow .u8 w a len cap zs) : CodeAt w.heap.size w a len := by
  rcases h with ⟨rfl, rfl, rfl, rfl⟩ | ⟨x, rfl, h1, h2, h3, h4, h5⟩
  · exact .inl rfl
  · by_cases h0 : len = 0
    · exact .inl h0
    · obtain ⟨b, off, spot⟩ := x
      have hc := h4 0 (by omega)
      have hspot : spot = none := by simpa [Addr.add] using World.cell?_spot hc
      subst hspot
      have hc' : w.cell? ⟨b, off, none⟩ = some (.int .u8 (zs.getD 0 0)) := by simpa [Addr.add] using hc
      refine .inr ⟨b, off, rfl, cell_block hc', fun i hi => ?_⟩
      have hlt : i < zs.length := by omega
      have hci := h4 i hlt
      rw [add_at] at hci
      have hb := bounds_u8 (h5 (zs.getD i 0) (by rw [List.getD_eq_getElem?_getD, List.getElem?_eq_getElem hlt]; exact List.getElem_mem hlt))
      exact ⟨_, hci, hb.1, hb.2⟩
theorem new_cursor {w : World} {a : Option Addr} {len : Nat} (cap : Nat) (h : CodeAt w.heap.size w a len) (hl : len ≤ 9223372036854775807) :
    Cursor w.heap.size w.heap.size 0 a len cap (w.alloc (.cells #[.slice a len cap, .int .i64 0, .int .u64 0] 44)) :=
  ⟨h.below ((Below.refl _ w).alloc (Nat.le_refl _) _), ⟨0, 0, heap_alloc_new w _, by omega, by omega⟩, Nat.le_refl _, hl⟩
theorem below_cursor {w w' : World} {o : Obj} (hg : (w.alloc o).grownBy w' (some w.heap.size)) : Below w.heap.size w w' :=
  ((Below.refl _ w).alloc (Nat.le_refl _) o).grown hg (by simp) (fun k e => by cases e; exact Nat.le_refl _)

def TwoTexts (P : ByteArray → ByteArray → Prop) (w : World) (e : Ending) (w' : World) : Prop := ∃ s t : ByteArray, P s t ∧ e = .returned (.tuple #[.string s, .string t]) ∧ Below w.heap.size w w'

def sepList : List ByteArray := [⟨#[44]⟩, ⟨#[44]⟩, ⟨#[32]⟩, ⟨#[]⟩, ⟨#[44, 44]⟩]
theorem sepList_small : ∀ x ∈ sepList, x.size ≤ 2 := by decide
set_option maxHeartbeats 1000000 in
theorem drawSplit (w : World) (a : Option Addr) (len cap : Nat) (h : CodeAt w.heap.size w a len) (hl : len ≤ 9223372036854775807) :
    Calls Try.prog 9 #[.slice a len cap] w (TwoTexts (fun s t => s.size ≤ 10 ∧ t.size ≤ 2) w) := by
  have hC := Lib.hid (new_cursor cap h hl)
  clear h
  go_enter Try.func9, Try.ntmps9
  go_wp2_with fail
  refine (any1_any hC.out (by omega)).mono ?_
  rintro e w1 ⟨x, hx, rfl, hc1, hg1⟩
  have hA := hc1.kept (World.grownBy_alloc w1 (.cells (sepList.map Value.string).toArray 9) none)
  have C := Lib.hid (of_any hA (by omega) sepList 5 w1.heap.size 5 rfl (by decide) (by decide) (by have := hc1.cur.lt; omega) (by simp) (news_at w1 sepList 9))
  clear hA
  go_wp2_with fail
  refine C.out.mono ?_
  rintro e w2 ⟨y, hy, rfl, hc2, hg2⟩
  go_wp2
  go_ret2
  exact ⟨x, y, ⟨anyList_small x hx, sepList_small y hy⟩, rfl, below_cursor (hg1.trans ((World.grownBy_alloc w1 _ _).trans hg2))⟩

set_option maxHeartbeats 1000000 in
theorem drawLess (w : World) (a : Option Addr) (len cap : Nat) (h : CodeAt w.heap.size w a len) (hl : len ≤ 9223372036854775807) :
    Calls Try.prog 14 #[.slice a len cap] w (TwoTexts (fun _ _ => True) w) := by
  have hC := Lib.hid (new_cursor cap h hl)
  clear h
  go_enter Try.func14, Try.ntmps14
  go_wp2_with fail
  refine (any1_any hC.out (by omega)).mono ?_
  rintro e w1 ⟨x, hx, rfl, hc1, hg1⟩
  go_wp2_with fail
  refine (any1_any hc1 (by omega)).mono ?_
  rintro e w2 ⟨y, hy, rfl, hc2, hg2⟩
  go_wp2
  go_ret2
  exact ⟨x, y, trivial, rfl, below_cursor (hg1.trans hg2)⟩

theorem own_ne_cur {w : World} {B b N n len cap : Nat} {a : Option Addr} {v : Value} {xs : List Value} (h : w.ownsRow B 9 1 v n xs) (hc : CurAt w b N a len cap) : v.ownBlock ≠ some b := by
  obtain ⟨k, s, hh, _⟩ := hc
  rcases h.2 with ⟨rfl, _⟩ | ⟨g, cp, cur, rfl, _, hgb, _⟩
  · simp [Value.ownBlock]
  · intro e
    obtain rfl : g = b := by simpa [Value.ownBlock] using e
    rw [hh] at hgb
    simp at hgb
theorem Cursor.other {B b N : Nat} {a : Option Addr} {len cap : Nat} {w w' : World} (h : Cursor B b N a len cap w) {row : Option Nat} (hg : w.grownBy w' row) (hr : row ≠ some b) (hB : ∀ k, row = some k → B ≤ k) : Cursor B b N a len cap w' :=
  ⟨h.code.below ((Below.refl B w).grown hg (Nat.le_trans h.base (Nat.le_of_lt h.cur.lt)) hB), h.cur.kept hg (Ne.symm hr), h.base, h.room⟩

def zeros (n : Nat) : ByteArray := ⟨(List.replicate n 0).toArray⟩
theorem zeros_size (n : Nat) : (zeros n).size = n := by simp [zeros, ByteArray.size]
theorem infoByte : (Try.prog.info? 5).map (fun i => (i.zero, i.size, i.bytes)) = some (some (.int .u8 0), 1, 1) := by kernel_rfl
/-- 'string(make([]byte, n))'. -/
theorem make_zeros (w : World) (n : Nat) (hn : n ≤ 1000000) : ∃ w1, (Instr.makeSlice 22 (.int .i64 (n : Int)) (.int .i64 (n : Int))).run Try.prog w = .ok (.slice (some ⟨w.heap.size, 0, none⟩) n n) w1 ∧
    (convert 22 9 (.slice (some ⟨w.heap.size, 0, none⟩) n n)).run Try.prog w1 = .ok (.string (zeros n)) w1 ∧ w.grownBy w1 none := by
  obtain ⟨i0, hi, hz0, hz1, hz2⟩ := info_parts infoByte
  obtain ⟨w1, hmk, hown, hg⟩ := run_make_full (P := Try.prog) w w.heap.size 22 5 i0 (.int .u8 0) 1 Try.underlying22 hi hz0 hz1 .i64 .i64 n (by rw [hz2]; omega) (by unfold maxLen; omega) (Nat.le_refl _)
  refine ⟨w1, hmk, ?_, hg⟩
  have hl : (List.replicate n (0 : UInt8)).length = n := by simp
  have := run_convert_bytes_back (P := Try.prog) w1 22 9 5 ⟨w.heap.size, 0, none⟩ n (List.replicate n 0) Try.underlying22 Try.underlying5 Try.underlying9 (by
    intro j hj
    rw [add_at, Nat.zero_add, hown.cellAt j (by simpa using hj), Nat.mul_one]
    show (madeCells #[Value.int IntKind.u8 0] n).toList[j]? = _
    rw [toList_madeCells_one, List.getElem?_replicate, if_pos (by simpa using hj)]
    simp)
  rw [hl] at this
  exact this
end Go.Proofs.Ytopdaocamjfbdaa

/- The draws of the law of strings. -/
import Derived.Test.YtopdaocamjfbdaaDoorCur2
import Derived.Test.YtopdaocamjfbdaaDoorTexts
import Derived.Test.YtopdaocamjfbdaaDoorFmt
import Derived.Laws.IdiomStrings
namespace Go.Proofs.YtopdaocamjfbdaaDoor
open Go.RowKit
set_option linter.unusedVariables false

theorem codeAt_of {w : World} {a : Option Addr} {len cap : Nat} {zs : List Int} (h : IsRow .u8 w a len cap zs) : CodeAt w.heap.size w a len := by
  rcases h with ⟨rfl, rfl, rfl, rfl⟩ | ⟨x, rfl, h1, h2, h3, h4, h5⟩
  · exact .inl rfl
  · by_cases h0 : len = 0
    · exact .inl h0
    · obtain ⟨b, off, spot⟩ := x
      have hc := h4 0 (by omega)
      have hspot : spot = none := by simpa [Addr.add] using World.cell?_spot hc
      subst hspot
      have hc' : w.cell? ⟨b, off, none⟩ = some (.int .u8 (zs.getD 0 0)) := by simpa [Addr.add] using hc
      refine .inr ⟨b, off, rfl, cell_block hc', fun i hi => ?_⟩
      have hlt : i < zs.length := by omega
      have hci := h4 i hlt
      rw [add_at] at hci
      have hb := bounds_u8 (h5 (zs.getD i 0) (by rw [List.getD_eq_getElem?_getD, List.getElem?_eq_getElem hlt]; exact List.getElem_mem hlt))
      exact ⟨_, hci, hb.1, hb.2⟩
theorem new_cursor {w : World} {a : Option Addr} {len : Nat} (cap : Nat) (h : CodeAt w.heap.size w a len) (hl : len ≤ 9223372036854775807) :
    Cursor w.heap.size w.heap.size 0 a len cap (w.alloc (.cells #[.slice a len cap, .int .i64 0, .int .u64 0] 37)) :=
  ⟨h.below ((Below.refl _ w).alloc (Nat.le_refl _) _), ⟨0, 0, heap_alloc_new w _, by omega, by omega⟩, Nat.le_refl _, hl⟩
theorem below_cursor {w w' : World} {o : Obj} (hg : (w.alloc o).grownBy w' (some w.heap.size)) : Below w.heap.size w w' :=
  ((Below.refl _ w).alloc (Nat.le_refl _) o).grown hg (by simp) (fun k e => by cases e; exact Nat.le_refl _)

def zeros (n : Nat) : ByteArray := ⟨(List.replicate n 0).toArray⟩
theorem zeros_size (n : Nat) : (zeros n).size = n := by simp [zeros, ByteArray.size]
theorem infoByte : (Tryd.prog.info? 5).map (fun i => (i.zero, i.size, i.bytes)) = some (some (.int .u8 0), 1, 1) := by kernel_rfl
/-- 'string(make([]byte, n))'. -/
theorem make_zeros (w : World) (n : Nat) (hn : n ≤ 1000000) : ∃ w1, (Instr.makeSlice 22 (.int .i64 (n : Int)) (.int .i64 (n : Int))).run Tryd.prog w = .ok (.slice (some ⟨w.heap.size, 0, none⟩) n n) w1 ∧
    (convert 22 9 (.slice (some ⟨w.heap.size, 0, none⟩) n n)).run Tryd.prog w1 = .ok (.string (zeros n)) w1 ∧ w.grownBy w1 none := by
  obtain ⟨i0, hi, hz0, hz1, hz2⟩ := info_parts infoByte
  obtain ⟨w1, hmk, hown, hg⟩ := run_make_full (P := Tryd.prog) w w.heap.size 22 5 i0 (.int .u8 0) 1 Tryd.underlying22 hi hz0 hz1 .i64 .i64 n (by rw [hz2]; omega) (by unfold maxLen; omega) (Nat.le_refl _)
  refine ⟨w1, hmk, ?_, hg⟩
  have hl : (List.replicate n (0 : UInt8)).length = n := by simp
  have := run_convert_bytes_back (P := Tryd.prog) w1 22 9 5 ⟨w.heap.size, 0, none⟩ n (List.replicate n 0) Tryd.underlying22 Tryd.underlying5 Tryd.underlying9 (by
    intro j hj
    rw [add_at, Nat.zero_add, hown.cellAt j (by simpa using hj), Nat.mul_one]
    show (madeCells #[Value.int IntKind.u8 0] n).toList[j]? = _
    rw [toList_madeCells_one, List.getElem?_replicate, if_pos (by simpa using hj)]
    simp)
  rw [hl] at this
  exact this

theorem ints_at (w : World) (l : List Int) (t : TypeId) (i : Nat) (x : Int) (h : l[i]? = some x) : (w.alloc (.cells (l.map (Value.int .i64)).toArray t)).cell? ⟨w.heap.size, i, none⟩ = some (.int .i64 x) := by
  have hb : (w.alloc (.cells (l.map (Value.int .i64)).toArray t)).heap[w.heap.size]? = some (.cells (l.map (Value.int .i64)).toArray t (0, 0)) := heap_alloc_new w _
  rw [Go.Joins.cell_of_block hb i]
  simp [h]
def AmongSays (l : List Int) (B b N : Nat) (a : Option Addr) (len cap : Nat) (w : World) (e : Ending) (w' : World) : Prop :=
  ∃ x : Int, x ∈ l ∧ e = .returned (.int .i64 x) ∧ Cursor B b N a len cap w' ∧ w.grownBy w' (some b)
set_option maxHeartbeats 1000000 in
theorem among_any {B b N : Nat} {a : Option Addr} {len cap : Nat} {w : World} (h : Cursor B b N a len cap w) (hN : N ≤ 3000000000) (l : List Int) (n g c : Nat) (hn : l.length = n) (h1 : 1 ≤ n) (h2 : n ≤ 1000000) (hg : g ≠ b) (hlt : g < w.heap.size)
    (hcells : ∀ i x, l[i]? = some x → w.cell? ⟨g, i, none⟩ = some (.int .i64 x)) :
    Calls Tryd.prog 21 #[.pointer (some ⟨b, 0, none⟩), .slice (some ⟨g, 0, none⟩) n c] w (AmongSays l B b (N + 2) a len cap w) := by
  have HC := Lib.hid hcells
  have HN := Lib.hid hn
  clear hcells hn
  go_enter Tryd.func21, Tryd.ntmps21
  go_wp2_with fail
  refine (pick_any (n : Int) h (by omega) (by omega) (by omega)).mono ?_
  rintro e w1 ⟨r, rfl, hr0, hr1, hc1, hg1⟩
  obtain ⟨x, hx⟩ : ∃ x, l[r.toNat]? = some x := ⟨_, List.getElem?_eq_getElem (by have := HN.out; omega)⟩
  have hcell : w1.cell? ⟨g, r.toNat, none⟩ = some (.int .i64 x) := (hg1.cell_far ⟨g, r.toNat, none⟩ hlt (by simp; omega)).trans (HC.out _ _ hx)
  have HX := Lib.hid (List.mem_of_getElem? hx)
  clear hx
  go_wp2
  go_ret
  exact ⟨x, HX.out, rfl, hc1, hg1⟩

def fmtList (p : Int) : List Int := [0, 1, -1, 10, 999999, -999999, 1000000, -1000000, p]
theorem fmtList_bd (p : Int) (h0 : -500 ≤ p) (h1 : p ≤ 499) : ∀ x ∈ fmtList p, -1000000 ≤ x ∧ x ≤ 1000000 := by
  intro x hx
  simp [fmtList] at hx
  omega
def OneInt (P : Int → Prop) (w : World) (e : Ending) (w' : World) : Prop := ∃ n : Int, P n ∧ e = .returned (.int .i64 n) ∧ Below w.heap.size w w'
def OneText (P : ByteArray → Prop) (w : World) (e : Ending) (w' : World) : Prop := ∃ s : ByteArray, P s ∧ e = .returned (.string s) ∧ Below w.heap.size w w'

set_option maxHeartbeats 1000000 in
theorem drawFmt (w : World) (a : Option Addr) (len cap : Nat) (h : CodeAt w.heap.size w a len) (hl : len ≤ 9223372036854775807) :
    Calls Tryd.prog 9 #[.slice a len cap] w (OneInt (fun n => -1000000 ≤ n ∧ n ≤ 1000000) w) := by
  have hC := Lib.hid (new_cursor cap h hl)
  clear h
  go_enter Tryd.func9, Tryd.ntmps9
  go_wp2_with fail
  refine (pick_any 1000 hC.out (by omega) (by omega) (by omega)).mono ?_
  rintro e w1 ⟨r, rfl, hr0, hr1, hc1, hg1⟩
  have hA := hc1.kept (World.grownBy_alloc w1 (.cells ((fmtList (r - 500)).map (Value.int .i64)).toArray 3) none)
  have C := Lib.hid (among_any hA (by omega) (fmtList (r - 500)) 9 w1.heap.size 9 rfl (by decide) (by decide) (by have := hc1.cur.lt; omega) (by simp) (ints_at w1 (fmtList (r - 500)) 3))
  clear hA
  go_wp2_with fail
  refine C.out.mono ?_
  rintro e w2 ⟨y, hy, rfl, hc2, hg2⟩
  go_wp2
  go_ret
  exact ⟨y, fmtList_bd _ (by omega) (by omega) y hy, rfl, below_cursor (hg1.trans ((World.grownBy_alloc w1 _ _).trans hg2))⟩

def oddList : List ByteArray := [⟨#[]⟩, ⟨#[45]⟩, ⟨#[45, 48]⟩, ⟨#[48, 48]⟩, ⟨#[48, 49]⟩, ⟨#[45, 45, 49]⟩, ⟨#[49, 120]⟩, ⟨#[57, 57, 57, 57, 57, 57]⟩, ⟨#[49, 48, 48, 48, 48, 48, 48]⟩, ⟨#[45, 57, 57, 57, 57, 57, 57]⟩, ⟨#[49, 56, 52, 52, 54, 55, 52, 52, 48, 55, 51, 55, 48, 57, 53, 53, 49, 54, 49, 55]⟩]
theorem oddList_small : ∀ x ∈ oddList, x.size ≤ 20 := by decide
set_option maxHeartbeats 1000000 in
theorem drawParse (w : World) (a : Option Addr) (len cap : Nat) (h : CodeAt w.heap.size w a len) (hl : len ≤ 9223372036854775807) :
    Calls Tryd.prog 12 #[.slice a len cap] w (OneText (fun s => s.size ≤ 20) w) := by
  have hC := Lib.hid (new_cursor cap h hl)
  clear h
  go_enter Tryd.func12, Tryd.ntmps12
  go_wp2_with fail
  refine (one_any 2 hC.out (by omega) (by omega) (by omega)).mono ?_
  rintro e w1 ⟨yes, rfl, hc1, hg1⟩
  cases yes
  · go_wp2_with fail
    refine (pick_any 2000 hc1 (by omega) (by omega) (by omega)).mono ?_
    rintro e w2 ⟨r, rfl, hr0, hr1, hc2, hg2⟩
    have hsz := int_size (r - 1000) (by omega) (by omega)
    go_wp2_with fail
    refine (specNum (r - 1000) w2 (by omega) (by omega)).mono ?_
    rintro e w3 ⟨rfl, m, rfl⟩
    go_wp2
    go_ret
    exact ⟨_, by omega, rfl, Go.below_drewN (below_cursor (hg1.trans hg2)) m⟩
  · have hA := hc1.kept (World.grownBy_alloc w1 (.cells (oddList.map Value.string).toArray 9) none)
    have C := Lib.hid (of_any hA (by omega) oddList 11 w1.heap.size 11 rfl (by decide) (by decide) (by have := hc1.cur.lt; omega) (by simp) (news_at w1 oddList 9))
    clear hA
    go_wp2_with fail
    refine C.out.mono ?_
    rintro e w2 ⟨y, hy, rfl, hc2, hg2⟩
    go_wp2
    go_ret
    exact ⟨y, oddList_small y hy, rfl, below_cursor (hg1.trans ((World.grownBy_alloc w1 _ _).trans hg2))⟩

set_option maxHeartbeats 1000000 in
theorem drawAppend (w : World) (a : Option Addr) (len cap : Nat) (h : CodeAt w.heap.size w a len) (hl : len ≤ 9223372036854775807) :
    Calls Tryd.prog 15 #[.slice a len cap] w (OneText (fun s => s.size ≤ 4000) w) := by
  have hC := Lib.hid (new_cursor cap h hl)
  clear h
  go_enter Tryd.func15, Tryd.ntmps15
  go_wp2_with fail
  refine (one_any 20 hC.out (by omega) (by omega) (by omega)).mono ?_
  rintro e w1 ⟨yes, rfl, hc1, hg1⟩
  cases yes
  · go_wp2_with fail
    refine (any1_any hc1 (by omega)).mono ?_
    rintro e w2 ⟨y, hy, rfl, hc2, hg2⟩
    go_wp2
    go_ret
    exact ⟨y, by have := anyList_small y hy; omega, rfl, below_cursor (hg1.trans hg2)⟩
  · go_wp2_with fail
    refine (pick_any 10 hc1 (by omega) (by omega) (by omega)).mono ?_
    rintro e w2 ⟨r, rfl, hr0, hr1, hc2, hg2⟩
    obtain ⟨m, rfl⟩ := Int.eq_ofNat_of_zero_le hr0
    have hb2 := below_cursor (hg1.trans hg2)
    obtain ⟨w3, hmk, hcv, hg3⟩ := make_zeros w2 (3990 + m) (by omega)
    have em : ((3990 + m : Nat) : Int) = 3990 + (m : Int) := by omega
    rw [em] at hmk
    have hb3 := hb2.grown hg3 hb2.size (fun k e => by cases e)
    have hzs := zeros_size (3990 + m)
    generalize zeros (3990 + m) = z at *
    have hz4 : z.size ≤ 4000 := by omega
    clear em hzs hg3
    go_wp2
    go_ret
    exact ⟨z, hz4, rfl, hb3⟩
end Go.Proofs.YtopdaocamjfbdaaDoor

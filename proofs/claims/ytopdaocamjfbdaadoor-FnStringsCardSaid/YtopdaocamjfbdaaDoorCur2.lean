/- Draws of texts. -/
import Derived.Test.YtopdaocamjfbdaaDoorCur
import Derived.Outline
import Derived.Deep.AppendLies
namespace Go.Proofs.YtopdaocamjfbdaaDoor
open Go.RowKit
set_option linter.unusedVariables false

theorem news_at (w : World) (l : List ByteArray) (t : TypeId) (i : Nat) (x : ByteArray) (h : l[i]? = some x) : (w.alloc (.cells (l.map Value.string).toArray t)).cell? ⟨w.heap.size, i, none⟩ = some (.string x) := by
  have hb : (w.alloc (.cells (l.map Value.string).toArray t)).heap[w.heap.size]? = some (.cells (l.map Value.string).toArray t (0, 0)) := heap_alloc_new w _
  rw [Go.Joins.cell_of_block hb i]
  simp [h]

def OfSays (l : List ByteArray) (B b N : Nat) (a : Option Addr) (len cap : Nat) (w : World) (e : Ending) (w' : World) : Prop :=
  ∃ x : ByteArray, x ∈ l ∧ e = .returned (.string x) ∧ Cursor B b N a len cap w' ∧ w.grownBy w' (some b)
set_option maxHeartbeats 1000000 in
theorem of_any {B b N : Nat} {a : Option Addr} {len cap : Nat} {w : World} (h : Cursor B b N a len cap w) (hN : N ≤ 3000000000) (l : List ByteArray) (n g c : Nat) (hn : l.length = n) (h1 : 1 ≤ n) (h2 : n ≤ 1000000) (hg : g ≠ b) (hlt : g < w.heap.size)
    (hcells : ∀ i x, l[i]? = some x → w.cell? ⟨g, i, none⟩ = some (.string x)) :
    Calls Tryd.prog 27 #[.pointer (some ⟨b, 0, none⟩), .slice (some ⟨g, 0, none⟩) n c] w (OfSays l B b (N + 2) a len cap w) := by
  have HC := Lib.hid hcells
  have HN := Lib.hid hn
  clear hcells hn
  go_enter Tryd.func27, Tryd.ntmps27
  go_wp2_with fail
  refine (pick_any (n : Int) h (by omega) (by omega) (by omega)).mono ?_
  rintro e w1 ⟨r, rfl, hr0, hr1, hc1, hg1⟩
  obtain ⟨x, hx⟩ : ∃ x, l[r.toNat]? = some x := ⟨_, List.getElem?_eq_getElem (by have := HN.out; omega)⟩
  have hcell : w1.cell? ⟨g, r.toNat, none⟩ = some (.string x) := (hg1.cell_far ⟨g, r.toNat, none⟩ hlt (by simp; omega)).trans (HC.out _ _ hx)
  have HX := Lib.hid (List.mem_of_getElem? hx)
  clear hx
  go_wp2
  go_ret
  exact ⟨x, HX.out, rfl, hc1, hg1⟩

def OneSays (B b N : Nat) (a : Option Addr) (len cap : Nat) (w : World) (e : Ending) (w' : World) : Prop :=
  ∃ y : Bool, e = .returned (.bool y) ∧ Cursor B b N a len cap w' ∧ w.grownBy w' (some b)
theorem one_any {B b N : Nat} {a : Option Addr} {len cap : Nat} {w : World} (n : Int) (h : Cursor B b N a len cap w) (hN : N ≤ 3000000000) (h1 : 1 ≤ n) (h2 : n ≤ 1000000) :
    Calls Tryd.prog 26 #[.pointer (some ⟨b, 0, none⟩), .int .i64 n] w (OneSays B b (N + 2) a len cap w) := by
  go_enter Tryd.func26, Tryd.ntmps26
  go_wp2_with fail
  refine (pick_any n h (by omega) (by omega) (by omega)).mono ?_
  rintro e w1 ⟨r, rfl, hr0, hr1, hc1, hg1⟩
  go_wp2
  go_ret
  exact ⟨_, rfl, hc1, hg1⟩

/-- The texts of any1. -/
def anyList : List ByteArray := [⟨#[]⟩, ⟨#[97]⟩, ⟨#[97, 44, 98]⟩, ⟨#[115, 111, 109, 101, 32, 119, 111, 114, 100, 115]⟩, ⟨#[120, 35, 121]⟩, ⟨#[45, 49, 50]⟩, ⟨#[0, 255]⟩, ⟨#[44, 44]⟩, ⟨#[48]⟩]
theorem anyList_small : ∀ x ∈ anyList, x.size ≤ 10 := by decide
theorem any1_any {B b N : Nat} {a : Option Addr} {len cap : Nat} {w : World} (h : Cursor B b N a len cap w) (hN : N ≤ 3000000000) :
    Calls Tryd.prog 29 #[.pointer (some ⟨b, 0, none⟩)] w (OfSays anyList B b (N + 2) a len cap w) := by
  have hA := h.kept (World.grownBy_alloc w (.cells (anyList.map Value.string).toArray 9) none)
  have C := Lib.hid (of_any hA hN anyList 9 w.heap.size 9 rfl (by decide) (by decide) (by have := h.cur.lt; omega) (by simp) (news_at w anyList 9))
  clear hA
  go_enter Tryd.func29, Tryd.ntmps29
  go_wp2_with fail
  refine C.out.mono ?_
  rintro e w1 ⟨x, hx, rfl, hc1, hg1⟩
  go_wp2
  go_ret
  exact ⟨x, hx, rfl, hc1, (World.grownBy_alloc w _ (some b)).trans hg1⟩
end Go.Proofs.YtopdaocamjfbdaaDoor

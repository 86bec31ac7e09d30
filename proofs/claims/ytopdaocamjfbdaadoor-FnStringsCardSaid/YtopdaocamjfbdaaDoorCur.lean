/- The cursor from which the laws draw: each draw is a byte, and only the cursor's own block turns. -/
import Derived.Test.YtopdaocamjfbdaaDoorProg
import Derived.WalkKit
import Derived.WalkLawsBesides
import Derived.WalkSpells
import Derived.Below
import Derived.OwnWalk
import Derived.Lib.Hide
import Derived.Lib.SmallJoins
import Derived.Maps.AppendAt
import Derived.Deep.QuietTactic
import Derived.BigQuiet
import Derived.Laws.BitsAllLaws
import Derived.OpenShut
namespace Go.Proofs.YtopdaocamjfbdaaDoor
open Go.RowKit
set_option linter.unusedVariables false

/-- What a walk is told of a slice of bytes that came in. -/
def IsRow (k : IntKind) (w : World) (a : Option Addr) (len cap : Nat) (zs : List Int) : Prop :=
  (a = none ∧ len = 0 ∧ cap = 0 ∧ zs = []) ∨
  ∃ x, a = some x ∧ len ≤ cap ∧ cap ≤ maxLen ∧ zs.length = cap ∧ (∀ i, i < zs.length → w.cell? (x.add i) = some (.int k (zs.getD i 0))) ∧ ∀ n ∈ zs, (Lit.int k n).wf = true

/-- The bytes that are drawn lie in a block below B. -/
def CodeAt (B : Nat) (w : World) (a : Option Addr) (len : Nat) : Prop :=
  len = 0 ∨ ∃ cb co, a = some ⟨cb, co, none⟩ ∧ cb < B ∧ ∀ i, i < len → ∃ v : Int, w.cell? ⟨cb, co + i, none⟩ = some (.int .u8 v) ∧ 0 ≤ v ∧ v ≤ 255
theorem CodeAt.below {B : Nat} {w w' : World} {a : Option Addr} {len : Nat} (h : CodeAt B w a len) (hb : Below B w w') : CodeAt B w' a len := by
  rcases h with h | ⟨cb, co, h1, h2, h3⟩
  · exact .inl h
  · refine .inr ⟨cb, co, h1, h2, fun i hi => ?_⟩
    obtain ⟨v, hv, hr⟩ := h3 i hi
    exact ⟨v, (hb.cell (p := ⟨cb, co + i, none⟩) h2).trans hv, hr⟩

/-- The cursor's block: the code, how far it has been read, the seed. -/
def CurAt (w : World) (b N : Nat) (a : Option Addr) (len cap : Nat) : Prop :=
  ∃ k s : Int, w.heap[b]? = some (.cells #[.slice a len cap, .int .i64 k, .int .u64 s] 37 (0, 0)) ∧ 0 ≤ k ∧ k ≤ N

theorem u64_bounds {x : Int} (h : (Lit.int .u64 x).wf = true) : 0 ≤ x ∧ x < 18446744073709551616 := by
  simp [Lit.wf, IntKind.min, IntKind.max, IntKind.signed, IntKind.bits] at h
  omega
theorem byte_of (e : Int) : 0 ≤ wrap64 (bits BinOp.and IntKind.u64 (IntKind.u64.wrap e / 1099511627776) 255) ∧ wrap64 (bits BinOp.and IntKind.u64 (IntKind.u64.wrap e / 1099511627776) 255) ≤ 255 := by
  have h := u64_bounds (wf_wrap .u64 e)
  generalize IntKind.u64.wrap e = x at *
  have hx0 : 0 ≤ x / 1099511627776 := by omega
  have hx1 : x / 1099511627776 < 18446744073709551616 := by omega
  generalize x / 1099511627776 = y at *
  rw [u64_and y 255 hx0 hx1 (by decide) (by decide)]
  have hle : y.toNat &&& (255 : Int).toNat ≤ 255 := Nat.and_le_right
  generalize y.toNat &&& (255 : Int).toNat = z at *
  rw [IntWalk.wrap64_in _ ⟨by omega, by omega⟩]
  omega
theorem cur_end {w : World} {b N : Nat} {a : Option Addr} {len cap : Nat} {k s : Int} (h : w.heap[b]? = some (.cells #[.slice a len cap, .int .i64 k, .int .u64 s] 37 (0, 0))) (n m : Nat) (k' s' : Int) (hk0 : 0 ≤ k') (hk1 : k' ≤ N) :
    CurAt ((((w.drewN n).setCell ⟨b, 1, none⟩ (.int .i64 k')).setCell ⟨b, 2, none⟩ (.int .u64 s')).drewN m) b N a len cap := by
  have h0 : (w.drewN n).heap[b]? = some (.cells #[.slice a len cap, .int .i64 k, .int .u64 s] 37 (0, 0)) := h
  have h1 := Go.Joins.block_setCell (i := 1) h0 (.int .i64 k')
  have h2 := Go.Joins.block_setCell (i := 2) h1 (.int .u64 s')
  exact ⟨k', s', h2, hk0, hk1⟩
theorem cur_grown (w : World) (b : Nat) (n m : Nat) (x y : Value) : w.grownBy ((((w.drewN n).setCell ⟨b, 1, none⟩ x).setCell ⟨b, 2, none⟩ y).drewN m) (some b) := by
  refine ⟨rfl, rfl, rfl, by simp [World.setCell, World.drewN], fun k _ hk => ?_⟩
  show (((w.drewN n).setCell ⟨b, 1, none⟩ x).setCell ⟨b, 2, none⟩ y).heap[k]? = _
  have hkb : k ≠ b := fun e => hk (by rw [e])
  rw [Below.heap_setCell _ _ _ _ hkb, Below.heap_setCell _ _ _ _ hkb]
  rfl

def NextEnd (b N : Nat) (a : Option Addr) (len cap : Nat) (w : World) (e : Ending) (w' : World) : Prop :=
  ∃ r : Int, e = .returned (.int .i64 r) ∧ 0 ≤ r ∧ r ≤ 255 ∧ CurAt w' b N a len cap ∧ w.grownBy w' (some b)

set_option maxHeartbeats 2000000 in
theorem next_in (w : World) (B b N : Nat) (a : Option Addr) (len cap : Nat) (hC : CodeAt B w a len) (h : CurAt w b N a len cap) (hN : N ≤ 4000000000) (hl : len ≤ 9223372036854775807) :
    Calls Tryd.prog 36 #[.pointer (some ⟨b, 0, none⟩)] w (NextEnd b (N + 1) a len cap w) := by
  obtain ⟨k, s, hh, hk0, hk1⟩ := h
  have c0 : w.cell? ⟨b, 0, none⟩ = some (.slice a len cap) := Go.Joins.cell_of_block hh 0
  have c1 : w.cell? ⟨b, 1, none⟩ = some (.int .i64 k) := Go.Joins.cell_of_block hh 1
  have c2 : w.cell? ⟨b, 2, none⟩ = some (.int .u64 s) := Go.Joins.cell_of_block hh 2
  have f1 := Go.Joins.unfrozen_of_block hh 1
  have f2 := Go.Joins.unfrozen_of_block hh 2
  have HH := Lib.hid hh
  clear hh
  by_cases hlt : k < (len : Int)
  · obtain ⟨v, hv, hv0, hv1⟩ : ∃ v : Int, (∃ cb co, a = some ⟨cb, co, none⟩ ∧ cb < B ∧ w.cell? ⟨cb, co + k.toNat, none⟩ = some (.int .u8 v)) ∧ 0 ≤ v ∧ v ≤ 255 := by
      rcases hC with h0 | ⟨cb, co, h1, h2, h3⟩
      · omega
      · obtain ⟨v, hv, hr⟩ := h3 k.toNat (by omega)
        exact ⟨v, ⟨cb, co, h1, h2, hv⟩, hr⟩
    obtain ⟨cb, co, rfl, hcb, hcv⟩ := hv
    go_enter Tryd.func36, Tryd.ntmps36
    go_wp2
    go_quiet (fail)
    go_wp2
    go_quiet (fail)
    go_wp2
    go_quiet (fail)
    go_wp2
    go_ret
    exact ⟨v, rfl, hv0, hv1, cur_end HH.out _ _ _ _ (by omega) (by omega), cur_grown _ _ _ _ _ _⟩
  · go_enter Tryd.func36, Tryd.ntmps36
    go_wp2
    go_quiet (fail)
    go_wp2
    go_quiet (fail)
    go_wp2
    go_ret
    exact ⟨_, rfl, (byte_of _).1, (byte_of _).2, cur_end HH.out _ _ _ _ (by omega) (by omega), cur_grown _ _ _ _ _ _⟩

theorem CodeAt.grown {B b : Nat} {w w' : World} {a : Option Addr} {len : Nat} (h : CodeAt B w a len) (hb : B ≤ b) (hB : B ≤ w.heap.size) (hg : w.grownBy w' (some b)) : CodeAt B w' a len :=
  h.below ((Below.refl B w).grown hg hB (fun k e => by cases e; exact hb))
theorem CurAt.lt {w : World} {b N : Nat} {a : Option Addr} {len cap : Nat} (h : CurAt w b N a len cap) : b < w.heap.size := by
  obtain ⟨k, s, hh, _⟩ := h
  exact (Array.getElem?_eq_some_iff.1 hh).1
theorem CurAt.more {w : World} {b N M : Nat} {a : Option Addr} {len cap : Nat} (h : CurAt w b N a len cap) (hm : N ≤ M) : CurAt w b M a len cap := by
  obtain ⟨k, s, hh, h0, h1⟩ := h
  exact ⟨k, s, hh, h0, by omega⟩
theorem CurAt.kept {w w' : World} {b N : Nat} {a : Option Addr} {len cap : Nat} (h : CurAt w b N a len cap) {row : Option Nat} (hg : w.grownBy w' row) (hr : some b ≠ row) : CurAt w' b N a len cap := by
  have hlt := h.lt
  obtain ⟨k, s, hh, h0⟩ := h
  exact ⟨k, s, (hg.block b hlt hr).trans hh, h0⟩

/-- WHAT ALL DRAWS SHARE: where the cursor stands, over which code. -/
structure Cursor (B b N : Nat) (a : Option Addr) (len cap : Nat) (w : World) : Prop where
  code : CodeAt B w a len
  cur : CurAt w b N a len cap
  base : B ≤ b
  room : len ≤ 9223372036854775807
theorem Cursor.next {B b N M : Nat} {a : Option Addr} {len cap : Nat} {w w' : World} (h : Cursor B b N a len cap w) (hc : CurAt w' b M a len cap) (hg : w.grownBy w' (some b)) : Cursor B b M a len cap w' :=
  ⟨h.code.grown h.base (Nat.le_trans h.base (Nat.le_of_lt h.cur.lt)) hg, hc, h.base, h.room⟩
theorem Cursor.kept {B b N : Nat} {a : Option Addr} {len cap : Nat} {w w' : World} (h : Cursor B b N a len cap w) (hg : w.grownBy w' none) : Cursor B b N a len cap w' :=
  ⟨h.code.below ((Below.refl B w).grown hg (Nat.le_trans h.base (Nat.le_of_lt h.cur.lt)) (fun k e => by cases e)), h.cur.kept hg (by simp), h.base, h.room⟩
theorem Cursor.more {B b N M : Nat} {a : Option Addr} {len cap : Nat} {w : World} (h : Cursor B b N a len cap w) (hm : N ≤ M) : Cursor B b M a len cap w := ⟨h.code, h.cur.more hm, h.base, h.room⟩

def NextSays (B b N : Nat) (a : Option Addr) (len cap : Nat) (w : World) (e : Ending) (w' : World) : Prop :=
  ∃ r : Int, e = .returned (.int .i64 r) ∧ 0 ≤ r ∧ r ≤ 255 ∧ Cursor B b N a len cap w' ∧ w.grownBy w' (some b)
theorem next_any {B b N : Nat} {a : Option Addr} {len cap : Nat} {w : World} (h : Cursor B b N a len cap w) (hN : N ≤ 4000000000) :
    Calls Tryd.prog 36 #[.pointer (some ⟨b, 0, none⟩)] w (NextSays B b (N + 1) a len cap w) :=
  (next_in w B b N a len cap h.code h.cur hN h.room).mono fun e w' ⟨r, he, h0, h1, hc, hg⟩ => ⟨r, he, h0, h1, h.next hc hg, hg⟩

/-- A draw from 0 to n - 1. -/
def PickSays (n : Int) (B b N : Nat) (a : Option Addr) (len cap : Nat) (w : World) (e : Ending) (w' : World) : Prop :=
  ∃ r : Int, e = .returned (.int .i64 r) ∧ 0 ≤ r ∧ r < n ∧ Cursor B b N a len cap w' ∧ w.grownBy w' (some b)
set_option maxHeartbeats 1000000 in
theorem pick_any {B b N : Nat} {a : Option Addr} {len cap : Nat} {w : World} (n : Int) (h : Cursor B b N a len cap w) (hN : N ≤ 3000000000) (h1 : 1 ≤ n) (h2 : n ≤ 1000000) :
    Calls Tryd.prog 22 #[.pointer (some ⟨b, 0, none⟩), .int .i64 n] w (PickSays n B b (N + 2) a len cap w) := by
  by_cases hn : n ≤ 1
  · go_enter Tryd.func22, Tryd.ntmps22
    go_wp2
    go_ret
    exact ⟨0, rfl, by omega, by omega, h.more (by omega), World.grownBy.refl _ _⟩
  · by_cases hbig : n ≤ 200
    · go_enter Tryd.func22, Tryd.ntmps22
      go_wp2_with fail
      refine (next_any h (by omega)).mono ?_
      rintro e w1 ⟨r, rfl, hr0, hr1, hc1, hg1⟩
      have hm0 : 0 ≤ r % n := Int.emod_nonneg _ (by omega)
      have hm1 : r % n < n := Int.emod_lt_of_pos _ (by omega)
      go_wp2
      go_ret
      exact ⟨_, rfl, hm0, hm1, hc1.more (by omega), hg1⟩
    · go_enter Tryd.func22, Tryd.ntmps22
      go_wp2_with fail
      refine (next_any h (by omega)).mono ?_
      rintro e w1 ⟨r, rfl, hr0, hr1, hc1, hg1⟩
      go_wp2_with fail
      refine (next_any hc1 (by omega)).mono ?_
      rintro e w2 ⟨r2, rfl, hr20, hr21, hc2, hg2⟩
      have hm0 : 0 ≤ (r * 256 + r2) % n := Int.emod_nonneg _ (by omega)
      have hm1 : (r * 256 + r2) % n < n := Int.emod_lt_of_pos _ (by omega)
      go_wp2
      go_ret
      exact ⟨_, rfl, hm0, hm1, hc2.more (by omega), hg1.trans hg2⟩
end Go.Proofs.YtopdaocamjfbdaaDoor

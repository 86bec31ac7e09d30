/- Pairs of numbers and slices of them: what came in, what the call made; the walks of the laws' helpers over them. -/
import Derived.Test.YtpkdlgdjpoempaaProg
import Derived.WalkKit
import Derived.WalkLawsBesides
import Derived.Below
import Derived.OwnWalk
import Derived.Maps.AppendAt
import Derived.WalkSpells
import Derived.Lib.Hide
import Derived.Deep.QuietTactic
import Derived.BigQuiet
import Derived.Outline
import Derived.Laws.Rows
namespace Go.Proofs.Ytpkdlgdjpoempaa
open Go.RowKit
set_option linter.unusedVariables false

abbrev two (p : Int × Int) : Value := .agg #[.int .i64 p.1, .int .i64 p.2]
def ofTwo (x y : Int) : Obj := .cells #[.int .i64 x, .int .i64 y] 67
theorem sizeTwo : (Try.prog.info? 67).map (·.size) = some 2 := by kernel_rfl

theorem alloc_mid (w : World) (a b c : Obj) : (((w.alloc a).alloc b).alloc c).heap[w.heap.size + 1]? = some b := by
  refine (Below.heap_alloc _ _ _ (by simp)).trans ?_
  show ((w.heap.push a).push b)[w.heap.size + 1]? = some b
  rw [Array.getElem?_push, if_pos (by simp)]

set_option maxHeartbeats 1000000 in
theorem toPair (w : World) (p : Int × Int) :
    Calls Try.prog 68 #[two p] w fun e w' => e = .returned (two p) ∧ Below w.heap.size w w' := by
  obtain ⟨x, y⟩ := p
  unfold two
  simp only
  have hb1 : ∀ a b c d, Below w.heap.size w (((w.alloc (ofTwo x y)).alloc (ofTwo a b)).alloc (ofTwo c d)) := fun a b c d => (((Below.refl _ _).alloc (Nat.le_refl _) _).alloc (by simp) _).alloc (by simp; omega) _
  go_enter Try.func68, Try.ntmps68
  go_wp2
  go_loopw [4] (fun i wr => (i = .int .i64 0 ∧ Hid (wr = ((w.alloc (ofTwo x y)).alloc (ofTwo 0 0)).alloc (ofTwo 0 0))) ∨ (i = .int .i64 1 ∧ Hid (wr = ((w.alloc (ofTwo x y)).alloc (ofTwo 0 0)).alloc (ofTwo x 0))) ∨
    (i = .int .i64 2 ∧ Hid (wr = ((w.alloc (ofTwo x y)).alloc (ofTwo 0 0)).alloc (ofTwo x y)))) (fun i _ => 2 - (intOf i).toNat)
  case atStart => exact .inl ⟨rfl, rfl⟩
  case round =>
    rcases hrel with ⟨rfl, HW⟩ | ⟨rfl, HW⟩ | ⟨rfl, HW⟩
    · have hw := HW.out
      subst hw
      clear HW
      unfold ofTwo
      go_wp2
      go_roundw
      case rel => exact .inr (.inl ⟨rfl, Lib.hid trivial⟩)
      case measure => simp [intOf]
    · have hw := HW.out
      subst hw
      clear HW
      unfold ofTwo
      go_wp2
      go_roundw
      case rel => exact .inr (.inr ⟨rfl, Lib.hid trivial⟩)
      case measure => simp [intOf]
    · have hw := HW.out
      subst hw
      clear HW
      unfold ofTwo
      go_wp2
      (try simp only [Exit.inBlock, Exit.then])
      refine bodyPost_ret (results_cell_row rfl _ _ (w.heap.size + 1) 67 #[.int .i64 x, .int .i64 y] (0, 0) _ rfl ?_ Try.underlying67 rfl sizeTwo) rfl ⟨rfl, hb1 x y x y⟩
      exact alloc_mid w _ _ _
end Go.Proofs.Ytpkdlgdjpoempaa

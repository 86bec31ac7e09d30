/- A Space is copied: its slices in memory of their own. -/
import Derived.Test.YtllmaggpglmaeaaSpace
namespace Go.Proofs.Ytllmaggpglmaeaa
open Go.RowKit
set_option linter.unusedVariables false

/-- A slice of rows of the call's own, all of its blocks ahead of M. -/
def GridTo (B M : Nat) (v : Value) (l : List (List Int)) (w : World) : Prop :=
  ∃ (g : Nat) (rs : List Value), v = .slice (some ⟨g, 0, none⟩) l.length l.length ∧ B ≤ g ∧ g < M ∧ w.ownsRow B 31 1 v l.length rs ∧ RowsOwn (g + 1) rs l w ∧ ∀ (i : Nat) (rv : Value) (b : Nat), rs[i]? = some rv → rv.ownBlock = some b → b < M
theorem OwnGrid.to {B : Nat} {v : Value} {l : List (List Int)} {w : World} (h : OwnGrid B v l w) : GridTo B w.heap.size v l w := by
  obtain ⟨g, rs, rfl, hB, ho, hr⟩ := h
  refine ⟨g, rs, rfl, hB, (ho.lt g rfl).2, ho, hr, fun i rv b h1 h2 => ?_⟩
  obtain ⟨r, hr'⟩ : ∃ r, l[i]? = some r := ⟨_, List.getElem?_eq_getElem (by rw [← hr.1]; exact (List.getElem?_eq_some_iff.1 h1).1)⟩
  exact (World.ownsRow.lt (hr.2.1 i rv r h1 hr') b h2).2
theorem GridTo.grid {B M : Nat} {v : Value} {l : List (List Int)} {w : World} (h : GridTo B M v l w) : OwnGrid B v l w := by
  obtain ⟨g, rs, h1, h2, _, h3, h4, _⟩ := h
  exact ⟨g, rs, h1, h2, h3, h4⟩
theorem GridTo.below {B M : Nat} {v : Value} {l : List (List Int)} {w w' : World} (h : GridTo B M v l w) (hb : Below w.heap.size w w') : GridTo B M v l w' := by
  obtain ⟨g, rs, rfl, h2, h3, h4, h5, h6⟩ := h
  exact ⟨g, rs, rfl, h2, h3, h4.kept (w' := w') (row := none) ⟨hb.os, hb.tape, hb.output, hb.size, fun k hk _ => hb.block k hk⟩ (.inr (by simp [Value.ownBlock])), h5.below hb, h6⟩
theorem GridTo.store {B M : Nat} {v : Value} {l : List (List Int)} {w : World} (h : GridTo B M v l w) {a : Addr} (ha : a.block < B) (u : Value) : GridTo B M v l (w.setCell a u) := by
  obtain ⟨g, rs, h1, h2, h3, h4, h5, h6⟩ := h
  exact ⟨g, rs, h1, h2, h3, ownsRow_setCell_below h4 ha u, h5.store (by omega) u, h6⟩
theorem GridTo.le {B B' M : Nat} {v : Value} {l : List (List Int)} {w : World} (h : GridTo B M v l w) (hB : B' ≤ B) : GridTo B' M v l w := by
  obtain ⟨g, rs, h1, h2, h3, h4, h5, h6⟩ := h
  exact ⟨g, rs, h1, by omega, h3, own_base h4 hB, h5, h6⟩

def SpaceCopyEnd (l : List (List Int)) (m : List (Int × Int)) (w : World) (e : Ending) (w' : World) : Prop := ∃ v s M, e = .returned (spaceV v s) ∧ GridTo w.heap.size M v l w' ∧ OwnPairs M s m w' ∧ w.heap.size ≤ M ∧ Below w.heap.size w w'
end Go.Proofs.Ytllmaggpglmaeaa
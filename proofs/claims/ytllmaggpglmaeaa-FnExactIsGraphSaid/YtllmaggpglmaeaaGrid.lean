/- Slices of slices of numbers: what came in; the walks of the laws' helpers over them. -/
import Derived.Test.YtllmaggpglmaeaaIntMarks
namespace Go.Proofs.Ytllmaggpglmaeaa
open Go.RowKit
set_option linter.unusedVariables false

/-- The rows of a slice lie at its address, one a cell. -/
def GridAt (w : World) (a : Option Addr) (l : List (List Int)) : Prop :=
  l = [] ∨ ∃ b o, a = some ⟨b, o, none⟩ ∧ b < w.heap.size ∧ ∀ i r, l[i]? = some r → ∃ ra rc, w.cell? ⟨b, o + i, none⟩ = some (.slice ra r.length rc) ∧ IntsAt w ra r
theorem GridAt.below {w w' : World} {a : Option Addr} {l : List (List Int)} {B : Nat} (h : GridAt w a l) (hb : Below B w w') (hB : w.heap.size ≤ B) : GridAt w' a l := by
  rcases h with h | ⟨b, o, rfl, h1, h2⟩
  · exact .inl h
  · refine .inr ⟨b, o, rfl, Nat.lt_of_lt_of_le h1 hb.size, fun i r hr => ?_⟩
    obtain ⟨ra, rc, h3, h4⟩ := h2 i r hr
    exact ⟨ra, rc, (hb.cell (p := ⟨b, o + i, none⟩) (Nat.lt_of_lt_of_le h1 hB)).trans h3, h4.below hb hB⟩
theorem GridAt.cellAt {w : World} {a : Option Addr} {l : List (List Int)} (h : GridAt w a l) {k : Nat} {r : List Int} (hx : l[k]? = some r) :
    ∃ b o, a = some ⟨b, o, none⟩ ∧ b < w.heap.size ∧ ∃ ra rc, w.cell? ⟨b, o + k, none⟩ = some (.slice ra r.length rc) ∧ IntsAt w ra r := by
  rcases h with rfl | ⟨b, o, h1, h2, h3⟩
  · simp at hx
  · exact ⟨b, o, h1, h2, h3 k r hx⟩
/-- How many numbers all rows have. -/
def totI (l : List (List Int)) : Nat := (l.map (·.length)).sum
theorem totI_take (l : List (List Int)) (k : Nat) (x : List Int) (h : l[k]? = some x) : totI (l.take (k + 1)) = totI (l.take k) + x.length := by
  have := List.getElem?_eq_some_iff.1 h
  rw [List.take_succ_eq_append_getElem this.1, this.2]
  simp [totI]

def SzGrid (l : List (List Int)) (left : Int) (w : World) (e : Ending) (w' : World) : Prop := ∃ r : Int, e = .returned (.int .i64 r) ∧ (r = -1 ∨ (0 ≤ r ∧ r + l.length + totI l = left)) ∧ w = w'
end Go.Proofs.Ytllmaggpglmaeaa
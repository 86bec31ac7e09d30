/- Data as Lean values: what lies in memory reads as a value of a Lean type. -/
import Derived.Test.YtbkdmnohpjihgaaProg
import Derived.WalkKit
import Derived.Below
import Derived.OwnWalk
import Derived.Laws.AppendOwn
namespace Go.Proofs.Ytbkdmnohpjihgaa.Abs
open Go.RowKit
set_option linter.unusedVariables false

inductive Ty where
  | int | bool | str
  | sl (t : Ty)
  | pr (a b : Ty)
  deriving DecidableEq

@[reducible] def Ty.den : Ty → Type
  | .int => Int
  | .bool => Bool
  | .str => ByteArray
  | .sl t => List t.den
  | .pr a b => a.den × b.den
def Ty.n : Ty → Nat
  | .int => 1
  | .bool => 1
  | .str => 1
  | .sl _ => 1
  | .pr a b => a.n + b.n
theorem Ty.n_pos : ∀ t : Ty, 0 < t.n
  | .int => by decide
  | .bool => by decide
  | .str => by decide
  | .sl _ => by simp [Ty.n]
  | .pr a b => by have := Ty.n_pos a; simp only [Ty.n]; omega

/-- The cells read as this value; the memory behind them lies in blocks that are 'ok'. -/
def Rep (ok : Nat → Prop) (w : World) : (t : Ty) → t.den → List Value → Prop
  | .int, x, cs => cs = [.int .i64 x]
  | .bool, x, cs => cs = [.bool x]
  | .str, x, cs => cs = [.string x]
  | .sl t, l, cs => ∃ (a : Option Addr) (cap : Nat), cs = [.slice a (List.length l) cap] ∧ List.length l ≤ cap ∧ List.length l ≤ maxLen ∧
      (l = [] ∨ ∃ (b o : Nat) (xs : List Value), a = some ⟨b, o, none⟩ ∧ ok b ∧ b < w.heap.size ∧ xs.length = List.length l * t.n ∧
        (∀ j v, xs[j]? = some v → w.cell? ⟨b, o + j, none⟩ = some v) ∧
        (∀ (i : Nat) (y : t.den), l[i]? = some y → Rep ok w t y ((xs.drop (i * t.n)).take t.n)))
  | .pr a b, x, cs => ∃ (c1 c2 : List Value), cs = c1 ++ c2 ∧ Rep ok w a x.1 c1 ∧ Rep ok w b x.2 c2
theorem Rep.length {ok : Nat → Prop} {w : World} : ∀ {t : Ty} {x : t.den} {cs : List Value}, Rep ok w t x cs → cs.length = t.n
  | .int, _, _, h => by unfold Rep at h; subst h; rfl
  | .bool, _, _, h => by unfold Rep at h; subst h; rfl
  | .str, _, _, h => by unfold Rep at h; subst h; rfl
  | .sl t, _, _, h => by unfold Rep at h; obtain ⟨a, cap, rfl, _⟩ := h; rfl
  | .pr a b, _, _, h => by
    unfold Rep at h
    obtain ⟨c1, c2, rfl, h1, h2⟩ := h
    rw [List.length_append, h1.length, h2.length]; rfl
theorem Rep.mono {ok ok' : Nat → Prop} {w w' : World} (hs : w.heap.size ≤ w'.heap.size) (hk : ∀ b, ok b → b < w.heap.size → ok' b ∧ w'.heap[b]? = w.heap[b]?) :
    ∀ {t : Ty} {x : t.den} {cs : List Value}, Rep ok w t x cs → Rep ok' w' t x cs
  | .int, _, _, h => by unfold Rep at h ⊢; exact h
  | .bool, _, _, h => by unfold Rep at h ⊢; exact h
  | .str, _, _, h => by unfold Rep at h ⊢; exact h
  | .sl t, _, _, h => by
    unfold Rep at h ⊢
    obtain ⟨a, cap, h1, h2, h3, h4⟩ := h
    refine ⟨a, cap, h1, h2, h3, ?_⟩
    rcases h4 with h4 | ⟨b, o, xs, h5, h6, h7, h8, h9, h10⟩
    · exact .inl h4
    · obtain ⟨k1, k2⟩ := hk b h6 h7
      exact .inr ⟨b, o, xs, h5, k1, by omega, h8, fun j v hj => (World.cell?_of_block (a := ⟨b, o + j, none⟩) k2).trans (h9 j v hj), fun i y hy => Rep.mono hs hk (h10 i y hy)⟩
  | .pr a b, _, _, h => by
    unfold Rep at h ⊢
    obtain ⟨c1, c2, h1, h2, h3⟩ := h
    exact ⟨c1, c2, h1, Rep.mono hs hk h2, Rep.mono hs hk h3⟩
/-- Cells of one cell each are values that a cell may hold. -/
theorem Rep.one {ok : Nat → Prop} {w : World} : ∀ {t : Ty} {x : t.den} {cs : List Value}, Rep ok w t x cs → ∀ v ∈ cs, v.oneCell' = true
  | .int, _, _, h => by unfold Rep at h; subst h; intro v hv; simp at hv; subst hv; rfl
  | .bool, _, _, h => by unfold Rep at h; subst h; intro v hv; simp at hv; subst hv; rfl
  | .str, _, _, h => by unfold Rep at h; subst h; intro v hv; simp at hv; subst hv; rfl
  | .sl t, _, _, h => by unfold Rep at h; obtain ⟨a, cap, rfl, _⟩ := h; intro v hv; simp at hv; subst hv; rfl
  | .pr a b, _, _, h => by
    unfold Rep at h
    obtain ⟨c1, c2, rfl, h1, h2⟩ := h
    intro v hv
    rcases List.mem_append.1 hv with hv | hv
    · exact h1.one v hv
    · exact h2.one v hv
end Go.Proofs.Ytbkdmnohpjihgaa.Abs

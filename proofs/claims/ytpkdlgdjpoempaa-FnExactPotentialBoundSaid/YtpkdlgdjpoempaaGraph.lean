/- Graphs: the walks of the laws' helpers over them. -/
import Derived.Test.YtpkdlgdjpoempaaPairs3
import Derived.Test.YtpkdlgdjpoempaaPairs5
import Derived.Test.YtpkdlgdjpoempaaPairMarks
namespace Go.Proofs.Ytpkdlgdjpoempaa
open Go.RowKit
set_option linter.unusedVariables false

abbrev graphV (n : Int) (e : Value) : Value := .agg #[.int .i64 n, e]

theorem heap_set_same {w : World} {g : Nat} {c : Array Value} {t : TypeId} {f : Nat × Nat} (h : w.heap[g]? = some (.cells c t f)) (i : Nat) (v : Value) :
    (w.setCell ⟨g, i, none⟩ v).heap[g]? = some (.cells (c.setIfInBounds i v) t f) := by
  show (w.heap.modify g _)[g]? = _
  rw [Array.getElem?_modify, if_pos rfl, h]
  rfl
theorem cell_of_heap {w : World} {g : Nat} {c : Array Value} {t : TypeId} {f : Nat × Nat} (h : w.heap[g]? = some (.cells c t f)) (i : Nat) : w.cell? ⟨g, i, none⟩ = c[i]? := by
  simp [World.cell?, h]
theorem frozen_of_heap {w : World} {g : Nat} {c : Array Value} {t : TypeId} (h : w.heap[g]? = some (.cells c t (0, 0))) (i : Nat) : w.frozen? ⟨g, i, none⟩ = false := by
  simp [World.frozen?, h]
theorem own_le {w : World} {base base' size n : Nat} {e : TypeId} {v : Value} {xs : List Value} (h : w.ownsRow base e size v n xs) (hb : base' ≤ base) : w.ownsRow base' e size v n xs := by
  refine ⟨h.1, ?_⟩
  rcases h.2 with h2 | ⟨g, cap, cur, hv, hg, hr⟩
  · exact .inl h2
  · exact .inr ⟨g, cap, cur, hv, Nat.le_trans hb hg, hr⟩
theorem alloc_first (w : World) (a b c : Obj) : (((w.alloc a).alloc b).alloc c).heap[w.heap.size]? = some a := by
  refine (Below.heap_alloc _ _ _ (by simp; omega)).trans ((Below.heap_alloc _ _ _ (by simp)).trans ?_)
  show (w.heap.push a)[w.heap.size]? = some a
  rw [Array.getElem?_push, if_pos rfl]
theorem alloc_last (w : World) (a b c : Obj) : (((w.alloc a).alloc b).alloc c).heap[w.heap.size + 1 + 1]? = some c := by
  show (((w.heap.push a).push b).push c)[w.heap.size + 1 + 1]? = some c
  rw [Array.getElem?_push, if_pos (by simp)]
theorem alloc_below (w : World) (a b c : Obj) : Below w.heap.size w (((w.alloc a).alloc b).alloc c) ∧ (((w.alloc a).alloc b).alloc c).heap.size = w.heap.size + 3 :=
  ⟨(((Below.refl _ _).alloc (Nat.le_refl _) _).alloc (by simp) _).alloc (by simp; omega) _, by simp⟩
def GCopyEnd (n : Int) (l : List (Int × Int)) (w : World) (e : Ending) (w' : World) : Prop := ∃ v, e = .returned (graphV n v) ∧ OwnPairs w.heap.size v l w' ∧ Below w.heap.size w w'
set_option maxHeartbeats 1000000 in
/-- Whatever slice of pairs of the call's own it is. -/
theorem markPairs (w : World) (B : Nat) (v : Value) (l : List (Int × Int)) (k0 : Int) (h0 : 0 ≤ k0) (h1 : k0 ≤ 4000000000000000000) (h : OwnPairs B v l w) (hl : l.length ≤ 1000000000000000000) :
    Calls Try.prog 62 #[v, .int .i64 k0] w fun e w' => e = .returned (.int .i64 (k0 + l.length * 2)) ∧ OwnPairMarks B v k0 l.length w' ∧ w.grownBy w' v.ownBlock := by
  rcases h.2 with ⟨h2, h3⟩ | ⟨g, cap, cur, hv, _⟩
  · obtain rfl : l = [] := List.eq_nil_of_length_eq_zero h3
    subst h2
    have HO := Lib.hid h
    clear h h3
    go_enter Try.func62, Try.ntmps62
    go_wp2
    go_loopw [1, 5] (fun kk i wr => i = .int .i64 0 ∧ kk = .int .i64 k0 ∧ Hid (wr = w)) (fun _ i _ => 0)
    case atStart => exact ⟨rfl, rfl, rfl⟩
    case round =>
      obtain ⟨rfl, rfl, HW⟩ := hrel
      go_wp2
      go_ret
      have hw := HW.out
      subst hw
      exact ⟨by simp, by unfold OwnPairMarks; simpa [marksI, OwnPairs, flat2, vals] using HO.out, grown_refl _ _⟩
  · subst hv
    exact markPairs_some w B g cap l k0 h0 h1 h hl
end Go.Proofs.Ytpkdlgdjpoempaa
/- A slice of slices of numbers is copied: each row in memory of its own. -/
import Derived.Test.YtllmaggpglmaeaaGrid
namespace Go.Proofs.Ytllmaggpglmaeaa
open Go.RowKit
set_option linter.unusedVariables false

theorem own_base {w : World} {base base' size n : Nat} {e : TypeId} {v : Value} {xs : List Value} (h : w.ownsRow base e size v n xs) (hb : base' ≤ base) : w.ownsRow base' e size v n xs := by
  refine ⟨h.1, ?_⟩
  rcases h.2 with h2 | ⟨g, cap, cur, hv, hg, hr⟩
  · exact .inl h2
  · exact .inr ⟨g, cap, cur, hv, Nat.le_trans hb hg, hr⟩
/-- Rows of the call's own, no two of them in one block. -/
def RowsOwn (B : Nat) (rs : List Value) (l : List (List Int)) (w : World) : Prop :=
  rs.length = l.length ∧ (∀ (i : Nat) (rv : Value) (r : List Int), rs[i]? = some rv → l[i]? = some r → OwnInts B rv r w) ∧ (∀ (i j : Nat) (ri rj : Value) (b : Nat), rs[i]? = some ri → rs[j]? = some rj → i < j → ri.ownBlock = some b → rj.ownBlock ≠ some b)
theorem RowsOwn.below {B : Nat} {rs : List Value} {l : List (List Int)} {w w' : World} (h : RowsOwn B rs l w) (hb : Below w.heap.size w w') : RowsOwn B rs l w' := by
  refine ⟨h.1, fun i rv r h1 h2 => ?_, h.2.2⟩
  refine World.ownsRow.kept (w' := w') (row := none) (h.2.1 i rv r h1 h2) ⟨hb.os, hb.tape, hb.output, hb.size, fun k hk _ => hb.block k hk⟩ ?_
  by_cases e : rv.ownBlock = none
  · exact .inl e
  · exact .inr e
theorem RowsOwn.store {B : Nat} {rs : List Value} {l : List (List Int)} {w : World} (h : RowsOwn B rs l w) {a : Addr} (ha : a.block < B) (u : Value) : RowsOwn B rs l (w.setCell a u) :=
  ⟨h.1, fun i rv r h1 h2 => ownsRow_setCell_below (h.2.1 i rv r h1 h2) ha u, h.2.2⟩
theorem RowsOwn.snoc {B : Nat} {rs : List Value} {l : List (List Int)} {w w' : World} {rv : Value} {r : List Int} (h : RowsOwn B rs l w) (hb : Below w.heap.size w w') (ho : OwnInts w.heap.size rv r w') (hB : B ≤ w.heap.size) : RowsOwn B (rs ++ [rv]) (l ++ [r]) w' := by
  have hk := h.below hb
  refine ⟨by simp [h.1], fun i rv' r' h1 h2 => ?_, fun i j ri rj b h1 h2 hij h3 => ?_⟩
  · by_cases hi : i < rs.length
    · rw [List.getElem?_append_left hi] at h1
      rw [List.getElem?_append_left (by rw [← h.1]; exact hi)] at h2
      exact hk.2.1 i rv' r' h1 h2
    · have hi2 : i = rs.length := by have := (List.getElem?_eq_some_iff.1 h1).1; simp at this; omega
      subst hi2
      rw [List.getElem?_append_right (Nat.le_refl _)] at h1
      rw [h.1, List.getElem?_append_right (Nat.le_refl _)] at h2
      simp at h1 h2
      subst h1 h2
      exact own_base ho hB
  · by_cases hj : j < rs.length
    · rw [List.getElem?_append_left hj] at h2
      rw [List.getElem?_append_left (by omega)] at h1
      exact h.2.2 i j ri rj b h1 h2 hij h3
    · have hj2 : j = rs.length := by have := (List.getElem?_eq_some_iff.1 h2).1; simp at this; omega
      subst hj2
      rw [List.getElem?_append_right (Nat.le_refl _)] at h2
      rw [List.getElem?_append_left hij] at h1
      simp at h2
      subst h2
      obtain ⟨r', hr'⟩ : ∃ r', l[i]? = some r' := ⟨_, List.getElem?_eq_getElem (by rw [← h.1]; exact hij)⟩
      have h5 := (World.ownsRow.lt (h.2.1 i ri r' h1 hr') b h3).2
      intro h6
      have h7 := (World.ownsRow.lt ho b h6).1
      omega
theorem infoRow : (Try.prog.info? 31).map (fun i => (i.zero, i.size, i.bytes)) = some (some (.slice none 0 0), 1, 24) := by kernel_rfl
/-- A slice of rows of the call's own: its rows lie in other blocks than itself. -/
def OwnGrid (B : Nat) (v : Value) (l : List (List Int)) (w : World) : Prop := ∃ (g : Nat) (rs : List Value), v = .slice (some ⟨g, 0, none⟩) l.length l.length ∧ B ≤ g ∧ w.ownsRow B 31 1 v l.length rs ∧ RowsOwn (g + 1) rs l w
theorem OwnGrid.at {B : Nat} {v : Value} {l : List (List Int)} {w : World} (h : OwnGrid B v l w) : ∃ g cap, v = .slice (some ⟨g, 0, none⟩) l.length cap ∧ GridAt w (some ⟨g, 0, none⟩) l := by
  obtain ⟨g, rs, rfl, hB, ho, hr⟩ := h
  refine ⟨g, _, rfl, .inr ⟨g, 0, rfl, (ho.lt g rfl).2, fun i r hi => ?_⟩⟩
  have hil := (List.getElem?_eq_some_iff.1 hi).1
  obtain ⟨rv, hrv⟩ : ∃ rv, rs[i]? = some rv := ⟨_, List.getElem?_eq_getElem (by rw [hr.1]; exact hil)⟩
  obtain ⟨ra, rc, e, h1, _⟩ := (hr.2.1 i rv r hrv hi).at
  have hc := ho.cells (g := g) rfl i _ hrv
  rw [addI, e] at hc
  exact ⟨ra, rc, hc, h1⟩

def gcells (rs : List Value) (n : Nat) : List Value := rs ++ List.replicate (n - rs.length) (.slice none 0 0)
theorem gcells_get (rs : List Value) (n : Nat) (h : rs.length < n) : (gcells rs n)[rs.length]? = some (.slice none 0 0) := by
  unfold gcells
  rw [List.getElem?_append_right (Nat.le_refl _)]
  simp [List.getElem?_replicate]; omega
theorem gcells_set (rs : List Value) (n : Nat) (v : Value) (h : rs.length < n) : (gcells rs n).set rs.length v = gcells (rs ++ [v]) n := by
  unfold gcells
  rw [List.set_append_right _ _ (Nat.le_refl _), Nat.sub_self]
  have e : n - rs.length = (n - (rs ++ [v]).length) + 1 := by simp; omega
  rw [e, List.replicate_succ]
  simp
end Go.Proofs.Ytllmaggpglmaeaa
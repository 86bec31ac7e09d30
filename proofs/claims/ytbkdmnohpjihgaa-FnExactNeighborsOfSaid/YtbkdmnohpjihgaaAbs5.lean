/- What an operation that makes no memory yields. -/
import Derived.Test.YtbkdmnohpjihgaaAbs4
namespace Go.Proofs.Ytbkdmnohpjihgaa.Abs
open Go.RowKit
set_option linter.unusedVariables false

/-- The list of scalar values that a value's cells are. -/
def cellsAV : (t : Ty) → t.den → List AV
  | .pr a b, x => cellsAV a x.1 ++ cellsAV b x.2
  | .int, x => [.int x]
  | .bool, x => [.bool x]
  | .str, x => [.str x]
  | .sl t, l => [.sl t l]
/-- A value out of scalar values. -/
def pack : (t : Ty) → List AV → Option (t.den × List AV)
  | .int, cs => (match cs with | .int x :: r => some (x, r) | _ => none)
  | .bool, cs => (match cs with | .bool x :: r => some (x, r) | _ => none)
  | .str, cs => (match cs with | .str x :: r => some (x, r) | _ => none)
  | .sl t, cs => (match cs with
    | .sl u l :: r => if h : u = t then some (h ▸ l, r) else none
    | .nilsl :: r => some ([], r)
    | _ => none)
  | .pr a b, cs => match pack a cs with
    | some (x, r) => match pack b r with
      | some (y, r') => some ((x, y), r')
      | none => none
    | none => none
def unInj : (t : Ty) → AV → Option t.den
  | .int, .int x => some x
  | .bool, .bool x => some x
  | .str, .str x => some x
  | .sl t, .sl u l => if h : u = t then some (h ▸ l) else none
  | .sl t, .nilsl => some []
  | .pr a b, .agg t x => if h : t = .pr a b then some (h ▸ x) else none
  | _, _ => none
section
variable {ok : Nat → Prop} {w : World} {N : Nat} {val : Nat → Value}
theorem pack_rep : ∀ {t : Ty} {avs r : List AV} {x : t.den} {cs : List Value}, pack t avs = some (x, r) → avs.length = cs.length → (∀ (i : Nat) (c : AV), avs[i]? = some c → ∃ u, cs[i]? = some u ∧ VRel ok w N val c u) →
    ∃ c1 c2, cs = c1 ++ c2 ∧ Rep ok w t x c1 ∧ r.length = c2.length ∧ (∀ (i : Nat) (c : AV), r[i]? = some c → ∃ u, c2[i]? = some u ∧ VRel ok w N val c u) := by
  intro t
  have tail : ∀ {a : AV} {r : List AV} {cs : List Value}, (a :: r).length = cs.length → (∀ (i : Nat) (c : AV), (a :: r)[i]? = some c → ∃ u, cs[i]? = some u ∧ VRel ok w N val c u) →
      ∃ u c2, cs = u :: c2 ∧ VRel ok w N val a u ∧ r.length = c2.length ∧ (∀ (i : Nat) (c : AV), r[i]? = some c → ∃ u, c2[i]? = some u ∧ VRel ok w N val c u) := by
    intro a r cs hl h
    match cs, hl with
    | u :: c2, hl =>
      obtain ⟨u', hu, hv⟩ := h 0 a rfl
      cases hu
      exact ⟨u, c2, rfl, hv, by simpa using hl, fun i c hc => by simpa using h (i + 1) c (by simpa using hc)⟩
  induction t with
  | int =>
    intro avs r x cs hp hl h
    unfold pack at hp
    split at hp <;> cases hp
    obtain ⟨u, c2, rfl, hv, h1, h2⟩ := tail hl h
    exact ⟨[u], c2, rfl, by unfold Rep; rw [show u = _ from hv], h1, h2⟩
  | bool =>
    intro avs r x cs hp hl h
    unfold pack at hp
    split at hp <;> cases hp
    obtain ⟨u, c2, rfl, hv, h1, h2⟩ := tail hl h
    exact ⟨[u], c2, rfl, by unfold Rep; rw [show u = _ from hv], h1, h2⟩
  | str =>
    intro avs r x cs hp hl h
    unfold pack at hp
    split at hp <;> cases hp
    obtain ⟨u, c2, rfl, hv, h1, h2⟩ := tail hl h
    exact ⟨[u], c2, rfl, by unfold Rep; rw [show u = _ from hv], h1, h2⟩
  | sl t ih =>
    intro avs r x cs hp hl h
    unfold pack at hp
    split at hp
    · rename_i u l r'
      split at hp
      · rename_i hut
        subst hut
        cases hp
        obtain ⟨v, c2, rfl, hv, h1, h2⟩ := tail hl h
        exact ⟨[v], c2, rfl, hv, h1, h2⟩
      · cases hp
    · cases hp
      obtain ⟨v, c2, rfl, hv, h1, h2⟩ := tail hl h
      refine ⟨[v], c2, rfl, ?_, h1, h2⟩
      have e : v = .slice none 0 0 := hv
      subst e
      unfold Rep
      exact ⟨none, 0, rfl, Nat.le_refl _, by simp [maxLen], .inl rfl⟩
    · cases hp
  | pr a b iha ihb =>
    intro avs r x cs hp hl h
    unfold pack at hp
    split at hp
    · rename_i x1 r1 h1
      split at hp
      · rename_i x2 r2 h2
        cases hp
        obtain ⟨c1, c2, rfl, k1, k2, k3⟩ := iha h1 hl h
        obtain ⟨d1, d2, rfl, m1, m2, m3⟩ := ihb h2 k2 k3
        exact ⟨c1 ++ d1, d2, by simp, by unfold Rep; exact ⟨c1, d1, rfl, k1, m1⟩, m2, m3⟩
      · cases hp
    · cases hp
theorem pack_all {t : Ty} {avs : List AV} {x : t.den} {cs : List Value} (hp : pack t avs = some (x, [])) (hl : avs.length = cs.length) (h : ∀ (i : Nat) (c : AV), avs[i]? = some c → ∃ u, cs[i]? = some u ∧ VRel ok w N val c u) :
    Rep ok w t x cs := by
  obtain ⟨c1, c2, rfl, h1, h2, _⟩ := pack_rep hp hl h
  have : c2 = [] := List.eq_nil_of_length_eq_zero h2.symm
  subst this
  simpa using h1
theorem rep_cellsAV {ok : Nat → Prop} {w : World} {N : Nat} {val : Nat → Value} : ∀ {t : Ty} {x : t.den} {cs : List Value}, Rep ok w t x cs → cs.length = (cellsAV t x).length ∧ ∀ (i : Nat) (c : AV), (cellsAV t x)[i]? = some c → ∃ u, cs[i]? = some u ∧ VRel ok w N val c u
  | .int, x, cs, h => by unfold Rep at h; subst h; exact ⟨rfl, fun i c hc => by cases i <;> simp [cellsAV] at hc; subst hc; exact ⟨_, rfl, rfl⟩⟩
  | .bool, x, cs, h => by unfold Rep at h; subst h; exact ⟨rfl, fun i c hc => by cases i <;> simp [cellsAV] at hc; subst hc; exact ⟨_, rfl, rfl⟩⟩
  | .str, x, cs, h => by unfold Rep at h; subst h; exact ⟨rfl, fun i c hc => by cases i <;> simp [cellsAV] at hc; subst hc; exact ⟨_, rfl, rfl⟩⟩
  | .sl t, x, cs, h => by
    have hl := h.length
    match cs, hl with
    | [v], _ => exact ⟨rfl, fun i c hc => by cases i <;> simp [cellsAV] at hc; subst hc; exact ⟨_, rfl, h⟩⟩
  | .pr a b, x, cs, h => by
    unfold Rep at h
    obtain ⟨c1, c2, rfl, h1, h2⟩ := h
    obtain ⟨l1, k1⟩ := rep_cellsAV (N := N) (val := val) h1
    obtain ⟨l2, k2⟩ := rep_cellsAV (N := N) (val := val) h2
    refine ⟨by simp [cellsAV, l1, l2], fun i c hc => ?_⟩
    unfold cellsAV at hc
    by_cases hi : i < (cellsAV a x.1).length
    · rw [List.getElem?_append_left hi] at hc
      obtain ⟨u, hu, hv⟩ := k1 i c hc
      exact ⟨u, by rw [List.getElem?_append_left (by omega)]; exact hu, hv⟩
    · rw [List.getElem?_append_right (by omega)] at hc
      obtain ⟨u, hu, hv⟩ := k2 _ c hc
      exact ⟨u, by rw [List.getElem?_append_right (by omega), l1]; exact hu, hv⟩
theorem unInj_rep {t : Ty} {x : AV} {y : t.den} {v : Value} (h : unInj t x = some y) (hv : VRel ok w N val x v) : IRel ok w t y v ∧ Rep ok w t y v.cells.toList := by
  unfold unInj at h
  split at h
  · cases h; have e : v = _ := hv; subst e; exact ⟨by simp [IRel, Ty.isPr, Rep], by simp [Rep, Value.cells]⟩
  · cases h; have e : v = _ := hv; subst e; exact ⟨by simp [IRel, Ty.isPr, Rep], by simp [Rep, Value.cells]⟩
  · cases h; have e : v = _ := hv; subst e; exact ⟨by simp [IRel, Ty.isPr, Rep], by simp [Rep, Value.cells]⟩
  · split at h
    · rename_i hut
      subst hut
      cases h
      have hv' : Rep ok w _ _ [v] := hv
      refine ⟨by simp only [IRel, Ty.isPr]; exact hv', ?_⟩
      have hc : v.cells.toList = [v] := by
        unfold Rep at hv'
        obtain ⟨a, cap, he, _⟩ := hv'
        simp at he
        subst he; rfl
      rw [hc]; exact hv'
    · cases h
  · cases h
    have e : v = .slice none 0 0 := hv
    subst e
    have hR : ∀ t : Ty, Rep ok w (.sl t) [] [.slice none 0 0] := fun t => by unfold Rep; exact ⟨none, 0, rfl, Nat.le_refl _, by simp [maxLen], .inl rfl⟩
    exact ⟨by simp only [IRel, Ty.isPr]; exact hR _, hR _⟩
  · split at h
    · rename_i ht
      subst ht
      cases h
      obtain ⟨cs, rfl, hR⟩ := hv
      exact ⟨by simp only [IRel, Ty.isPr]; exact ⟨cs, rfl, hR⟩, by simpa [Value.cells] using hR⟩
    · cases h
  · cases h
end
end Go.Proofs.Ytbkdmnohpjihgaa.Abs

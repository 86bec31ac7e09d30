/- Variables that can be flipped: the program. -/
import Derived.Test.YtoejmijcikehdaaAuQ
import Derived.Test.YtoejmijcikehdaaPfQ
import Derived.Test.YtoejmijcikehdaaQg
namespace Go.Proofs.Ytoejmijcikehdaa.M
open Go.RowKit Abs
set_option linter.unusedSimpArgs false
set_option linter.unusedVariables false
set_option maxRecDepth 100000
set_option maxHeartbeats 4000000
def flipV (l : List Int) (v : Int) : List Int := setI l v (1 - gi l v)
theorem flipV_len (l : List Int) (v : Int) : (flipV l v).length = l.length := by unfold flipV setI; rw [List.length_set]
theorem cons_at {n : Int} {l : List Int} {v : Int} (h : 0 ≤ v) : gi (n :: l) (1 + v) = gi l v := by
  unfold gi
  rw [show (1 + v).toNat = v.toNat + 1 by omega, List.getD_cons_succ]
theorem cons_set {n y : Int} {l : List Int} {v : Int} (h : 0 ≤ v) : setI (n :: l) (1 + v) y = n :: setI l v y := by
  unfold setI
  rw [show (1 + v).toNat = v.toNat + 1 by omega, List.set_cons_succ]
def flipI (L : List (List Int)) (l : List Int) (v : Int) : Bool := !L.any (notMet (flipV l v))
def okS (n : Int) (L : List (List Int)) (r : List Int) : Bool := solR n L r && solB L r
def solV (n : Int) (L : List (List Int)) (r : List Int) : Int × List Int := if okS n L r = true then (n, padN r) else (0, List.replicate 6 0)
theorem okS_in {n : Int} {L : List (List Int)} {r : List Int} (h : okS n L r = true) : formOk n L = true ∧ asgB n r = true ∧ solV n L r = (n, padN r) ∧ 0 ≤ n ∧ n ≤ 6 ∧ (r.length : Int) = n ∧ (padN r).length = 6 := by
  have h1 := h
  unfold okS solR at h1
  simp only [Bool.and_eq_true] at h1
  obtain ⟨⟨a, b⟩, c⟩ := h1
  have h2 := asgB_in b
  refine ⟨a, b, ?_, (form_lits a).1, h2.2.1, h2.1, padN_len (by have := h2.1; have := h2.2.1; omega)⟩
  unfold solV
  rw [if_pos h]
def flpR (n : Int) (L : List (List Int)) (r : List Int) : List Int := if okS n L r = true then pref (flipI L (padN r)) n.toNat else []
theorem flp_len (n : Int) (L : List (List Int)) (r : List Int) : (flpR n L r).length ≤ 1048576 := by
  unfold flpR
  split
  · rename_i h
    obtain ⟨_, _, _, a, b, _⟩ := okS_in h
    have := pref_len (p := flipI L (padN r)) a
    omega
  · simp
theorem bit_pad {n : Int} {r : List Int} (h : asgB n r = true) (v : Int) : gi (padN r) v = 0 ∨ gi (padN r) v = 1 := by
  have h1 : ∀ x ∈ padN r, x = 0 ∨ x = 1 := fun x hx => by
    unfold padN at hx
    rcases List.mem_append.1 hx with hx | hx
    · exact (asgB_in h).2.2 x hx
    · exact .inl (List.eq_of_mem_replicate hx)
  unfold gi
  rw [List.getD_eq_getElem?_getD]
  cases e : (padN r)[v.toNat]? with
  | none => exact .inl rfl
  | some x => exact h1 x (List.mem_of_getElem? e)
end Go.Proofs.Ytoejmijcikehdaa.M

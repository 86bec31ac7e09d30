/- The law's statement of FnExactFrozenPlaces is proved: for every input the call returns true and leaves its arguments as they were. Conditions: none but those of the given row. -/
import Derived.Test.YtemdajfcfmefnaaRows
import Derived.Test.YtemdajfcfmefnaaLawFrozenPlacesQ
import Derived.WalkKit
import Derived.ProofKit
import Derived.OpenShut
import Derived.ShutString
import Derived.ChangeOld
import Derived.Below
import Derived.SliceStrings
namespace Go.Proofs.Ytemdajfcfmefnaa.fnExactFrozenPlaces
open Go.ChangeShapes Go.WideShapes Go.ChangeAt Go.RowKit Go.Proofs.Ytemdajfcfmefnaa.Abs
open Go.ChangeMaps (open_string shut_string)
set_option linter.unusedVariables false

theorem own : ownKnob Try.prog.godebug = none := by kernel_rfl
theorem laidOut : laidOutB Try.prog = true := by kernel_rfl
theorem isS : isTy Try.prog TS 38 := .inr ⟨_, _, Try.underlying38, rfl, rfl, by kernel_rfl, by kernel_rfl, ⟨26, Try.underlying36, by kernel_rfl, ⟨3, Try.underlying26, by kernel_rfl, Try.underlying3⟩⟩, ⟨79, Try.underlying22, by kernel_rfl, .inl ⟨3, Try.underlying79, by kernel_rfl, by kernel_rfl, Try.underlying3, Try.underlying3⟩⟩⟩

set_option maxRecDepth 100000 in
theorem lifted (os : Os) (started : os.Started) (H : Type) (enc : TypeId × Value → H) :
    ReturnsInHanded {} Try.checked os 12 .any (Rows.fnExactFrozenPlacesSpec.pre6 enc Try.prog Try.f12 Rows.fnExactFrozenPlacesRow.domain false) (Rows.fnExactFrozenPlacesSpec.post enc Try.prog Try.f12 false true false false) := by
  refine returnsInHanded_of_change (C := Try.checked) own started (by kernel_rfl) Try.func12
    (ChangeSpec.witness6 (enc := enc) (C := Try.checked) false ⟨#[], #[.agg #[.slice none 0 0, .slice none 0 0]], []⟩ 8 (by kernel_rfl) (by kernel_rfl) (by kernel_rfl) (by kernel_rfl)) ?_
  intro W base args ds gs before hval0 hW hcnd _
  have hval : ∀ (j : Nat) t v, Try.f12.params[j]? = some t → args[j]? = some v → Value.okWide Try.prog W .any base t v := hval0
  clear hval0
  have hW' := hW
  obtain ⟨p, q, hA0, hV, rfl, hfz, hnd⟩ := hW
  have hA : DataW.TrodAll enc Try.prog W 0 (fun _ => true) true Try.f12.params.toList args.toList ds p := hA0
  rw [Try.params12] at hA hval
  obtain ⟨v0, vs0, d0, ds0, p0, q0, hargs, rfl, rfl, h0, r0⟩ := trodAll_cons hA
  obtain ⟨rfl, rfl, rfl⟩ := trodAll_nil r0
  obtain rfl : args = #[v0] := by cases args; simp_all
  obtain ⟨rfl, rfl⟩ := trodVars_none hV
  have k0 := h0
  have lt0 : ∀ x ∈ p0, x.block < W.heap.size := by obtain ⟨m, hm⟩ := k0; exact DataW.trod_lt m _ _ _ hm
  obtain ⟨cs0, rfl, hz0⟩ := okWide_struct Try.underlying38 (hval 0 38 v0 rfl rfl)
  obtain ⟨a0, ar0⟩ : ∃ a : TS.den, Abs.ArgRel W (.agg TS a) (.agg cs0) := by
    obtain ⟨m, hm⟩ := h0
    obtain ⟨y, hy⟩ := open_rep isS hm (by kernel_rfl) (by show cs0.toList.length = _; rw [Array.length_toList, hz0]; kernel_rfl)
    exact ⟨y, cs0.toList, by simp, hy⟩
  clear hA0
  refine ((law_FnExactFrozenPlaces a0).2 W [.agg cs0] rfl (fun i x hx => by
    match i, hx with
    | 0, hx => cases hx; exact ⟨_, rfl, ar0⟩
    | i + 1, hx => simp at hx)).mono fun e W' ⟨r, he, bel, hr⟩ => ?_
  have hr' : r = .bool true := by
    have hr2 : IRel (fun b => W.heap.size ≤ b) W' .bool true r := hr
    simp only [IRel, Ty.isPr] at hr2
    have hr3 : Rep (fun b => W.heap.size ≤ b) W' .bool true [r] := hr2
    unfold Rep at hr3
    simpa using hr3
  subst hr'
  subst he
  exact ⟨_, rfl, _, _, _, [], _, [], hW', trodAll_mk1 (shut_bool Try.underlying4 _), (trodAll_cons_mk (Below.trod laidOut (by kernel_rfl) (of_decide_eq_true (by kernel_rfl)) k0 bel lt0) trodAll_mk0), rfl, bel.frame _, fun h => by cases h⟩

theorem over : Rows.fnExactFrozenPlacesRow.holds Try.pinned (OpenSpec.ofChange Rows.fnExactFrozenPlacesSpec) :=
  OpenClaim.holds_of_wide 12 Try.f12 rfl rfl rfl rfl rfl rfl rfl ⟨rfl, rfl, rfl, rfl, rfl⟩ rfl rfl rfl rfl rfl (by kernel_rfl) Try.func12 (by kernel_rfl)
    (of_decide_eq_true (by kernel_rfl)) (by unfold Func.isWrapper; first | (rw [if_pos (by decide +kernel)]; kernel_rfl) | (rw [if_neg (by decide +kernel)]; exact ⟨rfl, rfl⟩))
    (fun os started H enc _ => lifted os started H enc)

theorem proved : Rows.FnExactFrozenPlacesSaid := over
end Go.Proofs.Ytemdajfcfmefnaa.fnExactFrozenPlaces

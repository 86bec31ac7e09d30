/- The law's statement of FnExactKindWays is proved: for every input the call returns true and leaves its arguments as they were. Conditions: none but those of the given row. -/
import Derived.Test.YthogfineaeklpaaRows
import Derived.Test.YthogfineaeklpaaLawKindWaysQ
import Derived.WalkKit
import Derived.ProofKit
import Derived.OpenShut
import Derived.ShutString
import Derived.ChangeOld
import Derived.Below
import Derived.SliceStrings
namespace Go.Proofs.Ythogfineaeklpaa.fnExactKindWays
open Go.ChangeShapes Go.WideShapes Go.ChangeAt Go.RowKit Go.Proofs.Ythogfineaeklpaa.Abs
open Go.ChangeMaps (open_string shut_string)
set_option linter.unusedVariables false

theorem own : ownKnob Try.prog.godebug = none := by kernel_rfl
theorem laidOut : laidOutB Try.prog = true := by kernel_rfl
theorem isG : isTy Try.prog TG 24 := .inr ⟨_, _, Try.underlying24, rfl, rfl, by kernel_rfl, by kernel_rfl, Try.underlying3, ⟨70, Try.underlying22, by kernel_rfl, .inl ⟨3, Try.underlying70, by kernel_rfl, by kernel_rfl, Try.underlying3, Try.underlying3⟩⟩⟩
theorem isI : isTy Try.prog (.sl .int) 25 := ⟨3, Try.underlying25, by kernel_rfl, Try.underlying3⟩

set_option maxRecDepth 100000 in
theorem lifted (os : Os) (started : os.Started) (H : Type) (enc : TypeId × Value → H) :
    ReturnsInHanded {} Try.checked os 9 .any (Rows.fnExactKindWaysSpec.pre6 enc Try.prog Try.f9 Rows.fnExactKindWaysRow.domain false) (Rows.fnExactKindWaysSpec.post enc Try.prog Try.f9 false true false false) := by
  refine returnsInHanded_of_change (C := Try.checked) own started (by kernel_rfl) Try.func9
    (ChangeSpec.witness6 (enc := enc) (C := Try.checked) false ⟨#[], #[.agg #[.int .i64 0, .slice none 0 0], .int .i64 0, .slice none 0 0], []⟩ 8 (by kernel_rfl) (by kernel_rfl) (by kernel_rfl) (by kernel_rfl)) ?_
  intro W base args ds gs before hval0 hW hcnd _
  have hval : ∀ (j : Nat) t v, Try.f9.params[j]? = some t → args[j]? = some v → Value.okWide Try.prog W .any base t v := hval0
  clear hval0
  have hW' := hW
  obtain ⟨p, q, hA0, hV, rfl, hfz, hnd⟩ := hW
  have hA : DataW.TrodAll enc Try.prog W 0 (fun _ => true) true Try.f9.params.toList args.toList ds p := hA0
  rw [Try.params9] at hA hval
  obtain ⟨v0, vs0, d0, ds0, p0, q0, hargs, rfl, rfl, h0, r0⟩ := trodAll_cons hA
  obtain ⟨v1, vs1, d1, ds1, p1, q1, rfl, rfl, rfl, h1, r1⟩ := trodAll_cons r0
  obtain ⟨v2, vs2, d2, ds2, p2, q2, rfl, rfl, rfl, h2, r2⟩ := trodAll_cons r1
  obtain ⟨rfl, rfl, rfl⟩ := trodAll_nil r2
  obtain rfl : args = #[v0, v1, v2] := by cases args; simp_all
  obtain ⟨rfl, rfl⟩ := trodVars_none hV
  have k0 := h0
  have lt0 : ∀ x ∈ p0, x.block < W.heap.size := by obtain ⟨m, hm⟩ := k0; exact DataW.trod_lt m _ _ _ hm
  obtain ⟨cs0, rfl, hz0⟩ := okWide_struct Try.underlying24 (hval 0 24 v0 rfl rfl)
  obtain ⟨a0, ar0⟩ : ∃ a : TG.den, Abs.ArgRel W (.agg TG a) (.agg cs0) := by
    obtain ⟨m, hm⟩ := h0
    obtain ⟨y, hy⟩ := open_rep isG hm (by kernel_rfl) (by show cs0.toList.length = _; rw [Array.length_toList, hz0]; kernel_rfl)
    exact ⟨y, cs0.toList, by simp, hy⟩
  obtain ⟨a1, rfl, rfl, rfl, w1⟩ := open_int Try.underlying3 (hval 1 3 v1 rfl rfl) h1
  have ar1 : Abs.ArgRel W (.int a1) (.int .i64 a1) := rfl
  have k2 := h2
  have lt2 : ∀ x ∈ p2, x.block < W.heap.size := by obtain ⟨m, hm⟩ := k2; exact DataW.trod_lt m _ _ _ hm
  obtain ⟨b2, l2, c2, rfl⟩ := okWide_slice Try.underlying25 (hval 2 25 v2 rfl rfl)
  obtain ⟨a2, ar2⟩ : ∃ a : List Int, Abs.ArgRel W (.sl .int a) (.slice b2 l2 c2) := by
    obtain ⟨m, hm⟩ := h2
    exact open_rep isI hm (by kernel_rfl) rfl
  clear hA0
  refine ((law_FnExactKindWays a0 a1 a2).2 W [.agg cs0, .int .i64 a1, .slice b2 l2 c2] rfl (fun i x hx => by
    match i, hx with
    | 0, hx => cases hx; exact ⟨_, rfl, ar0⟩
    | 1, hx => cases hx; exact ⟨_, rfl, ar1⟩
    | 2, hx => cases hx; exact ⟨_, rfl, ar2⟩
    | i + 3, hx => simp at hx)).mono fun e W' ⟨r, he, bel, hr⟩ => ?_
  have hr' : r = .bool true := by
    have hr2 : IRel (fun b => W.heap.size ≤ b) W' .bool true r := hr
    simp only [IRel, Ty.isPr] at hr2
    have hr3 : Rep (fun b => W.heap.size ≤ b) W' .bool true [r] := hr2
    unfold Rep at hr3
    simpa using hr3
  subst hr'
  subst he
  exact ⟨_, rfl, _, _, _, [], _, [], hW', trodAll_mk1 (shut_bool Try.underlying4 _), (trodAll_cons_mk (Below.trod laidOut (by kernel_rfl) (of_decide_eq_true (by kernel_rfl)) k0 bel lt0) (trodAll_cons_mk (shut_int Try.underlying3 w1) (trodAll_cons_mk (Below.trod laidOut (by kernel_rfl) (of_decide_eq_true (by kernel_rfl)) k2 bel lt2) trodAll_mk0))), rfl, bel.frame _, fun h => by cases h⟩

theorem over : Rows.fnExactKindWaysRow.holds Try.pinned (OpenSpec.ofChange Rows.fnExactKindWaysSpec) :=
  OpenClaim.holds_of_wide 9 Try.f9 rfl rfl rfl rfl rfl rfl rfl ⟨rfl, rfl, rfl, rfl, rfl⟩ rfl rfl rfl rfl rfl (by kernel_rfl) Try.func9 (by kernel_rfl)
    (of_decide_eq_true (by kernel_rfl)) (by unfold Func.isWrapper; first | (rw [if_pos (by decide +kernel)]; kernel_rfl) | (rw [if_neg (by decide +kernel)]; exact ⟨rfl, rfl⟩))
    (fun os started H enc _ => lifted os started H enc)

theorem proved : Rows.FnExactKindWaysSaid := over
end Go.Proofs.Ythogfineaeklpaa.fnExactKindWays

/- The law's statement of FnExactAfterMap is proved: for every input the call returns true and leaves its arguments as they were. Conditions: none but those of the given row. -/
import Derived.Test.YtikclhackjjhfaaRows
import Derived.Test.YtikclhackjjhfaaLawAfterMapQ
import Derived.WalkKit
import Derived.ProofKit
import Derived.OpenShut
import Derived.ShutString
import Derived.ChangeOld
import Derived.Below
import Derived.SliceStrings
namespace Go.Proofs.Ytikclhackjjhfaa.fnExactAfterMap
open Go.ChangeShapes Go.WideShapes Go.ChangeAt Go.RowKit Go.Proofs.Ytikclhackjjhfaa.Abs
open Go.ChangeMaps (open_string shut_string)
set_option linter.unusedVariables false

theorem own : ownKnob Try.prog.godebug = none := by kernel_rfl
theorem laidOut : laidOutB Try.prog = true := by kernel_rfl
theorem isG : isTy Try.prog TG 24 := .inr ⟨_, _, Try.underlying24, rfl, rfl, by kernel_rfl, by kernel_rfl, Try.underlying3, ⟨68, Try.underlying22, by kernel_rfl, .inl ⟨3, Try.underlying68, by kernel_rfl, by kernel_rfl, Try.underlying3, Try.underlying3⟩⟩⟩
theorem isI : isTy Try.prog (.sl .int) 37 := ⟨3, Try.underlying37, by kernel_rfl, Try.underlying3⟩

set_option maxRecDepth 100000 in
theorem lifted (os : Os) (started : os.Started) (H : Type) (enc : TypeId × Value → H) :
    ReturnsInHanded {} Try.checked os 6 .any (Rows.fnExactAfterMapSpec.pre6 enc Try.prog Try.f6 Rows.fnExactAfterMapRow.domain false) (Rows.fnExactAfterMapSpec.post enc Try.prog Try.f6 false true false false) := by
  refine returnsInHanded_of_change (C := Try.checked) own started (by kernel_rfl) Try.func6
    (ChangeSpec.witness6 (enc := enc) (C := Try.checked) false ⟨#[], #[.agg #[.int .i64 0, .slice none 0 0], .agg #[.int .i64 0, .slice none 0 0], .agg #[.int .i64 0, .slice none 0 0], .slice none 0 0, .slice none 0 0, .bool false], []⟩ 8 (by kernel_rfl) (by kernel_rfl) (by kernel_rfl) (by kernel_rfl)) ?_
  intro W base args ds gs before hval0 hW hcnd _
  have hval : ∀ (j : Nat) t v, Try.f6.params[j]? = some t → args[j]? = some v → Value.okWide Try.prog W .any base t v := hval0
  clear hval0
  have hW' := hW
  obtain ⟨p, q, hA0, hV, rfl, hfz, hnd⟩ := hW
  have hA : DataW.TrodAll enc Try.prog W 0 (fun _ => true) true Try.f6.params.toList args.toList ds p := hA0
  rw [Try.params6] at hA hval
  obtain ⟨v0, vs0, d0, ds0, p0, q0, hargs, rfl, rfl, h0, r0⟩ := trodAll_cons hA
  obtain ⟨v1, vs1, d1, ds1, p1, q1, rfl, rfl, rfl, h1, r1⟩ := trodAll_cons r0
  obtain ⟨v2, vs2, d2, ds2, p2, q2, rfl, rfl, rfl, h2, r2⟩ := trodAll_cons r1
  obtain ⟨v3, vs3, d3, ds3, p3, q3, rfl, rfl, rfl, h3, r3⟩ := trodAll_cons r2
  obtain ⟨v4, vs4, d4, ds4, p4, q4, rfl, rfl, rfl, h4, r4⟩ := trodAll_cons r3
  obtain ⟨v5, vs5, d5, ds5, p5, q5, rfl, rfl, rfl, h5, r5⟩ := trodAll_cons r4
  obtain ⟨rfl, rfl, rfl⟩ := trodAll_nil r5
  obtain rfl : args = #[v0, v1, v2, v3, v4, v5] := by cases args; simp_all
  obtain ⟨rfl, rfl⟩ := trodVars_none hV
  have k0 := h0
  have lt0 : ∀ x ∈ p0, x.block < W.heap.size := by obtain ⟨m, hm⟩ := k0; exact DataW.trod_lt m _ _ _ hm
  obtain ⟨cs0, rfl, hz0⟩ := okWide_struct Try.underlying24 (hval 0 24 v0 rfl rfl)
  obtain ⟨a0, ar0⟩ : ∃ a : TG.den, Abs.ArgRel W (.agg TG a) (.agg cs0) := by
    obtain ⟨m, hm⟩ := h0
    obtain ⟨y, hy⟩ := open_rep isG hm (by kernel_rfl) (by show cs0.toList.length = _; rw [Array.length_toList, hz0]; kernel_rfl)
    exact ⟨y, cs0.toList, by simp, hy⟩
  have k1 := h1
  have lt1 : ∀ x ∈ p1, x.block < W.heap.size := by obtain ⟨m, hm⟩ := k1; exact DataW.trod_lt m _ _ _ hm
  obtain ⟨cs1, rfl, hz1⟩ := okWide_struct Try.underlying24 (hval 1 24 v1 rfl rfl)
  obtain ⟨a1, ar1⟩ : ∃ a : TG.den, Abs.ArgRel W (.agg TG a) (.agg cs1) := by
    obtain ⟨m, hm⟩ := h1
    obtain ⟨y, hy⟩ := open_rep isG hm (by kernel_rfl) (by show cs1.toList.length = _; rw [Array.length_toList, hz1]; kernel_rfl)
    exact ⟨y, cs1.toList, by simp, hy⟩
  have k2 := h2
  have lt2 : ∀ x ∈ p2, x.block < W.heap.size := by obtain ⟨m, hm⟩ := k2; exact DataW.trod_lt m _ _ _ hm
  obtain ⟨cs2, rfl, hz2⟩ := okWide_struct Try.underlying24 (hval 2 24 v2 rfl rfl)
  obtain ⟨a2, ar2⟩ : ∃ a : TG.den, Abs.ArgRel W (.agg TG a) (.agg cs2) := by
    obtain ⟨m, hm⟩ := h2
    obtain ⟨y, hy⟩ := open_rep isG hm (by kernel_rfl) (by show cs2.toList.length = _; rw [Array.length_toList, hz2]; kernel_rfl)
    exact ⟨y, cs2.toList, by simp, hy⟩
  have k3 := h3
  have lt3 : ∀ x ∈ p3, x.block < W.heap.size := by obtain ⟨m, hm⟩ := k3; exact DataW.trod_lt m _ _ _ hm
  obtain ⟨b3, l3, c3, rfl⟩ := okWide_slice Try.underlying37 (hval 3 37 v3 rfl rfl)
  obtain ⟨a3, ar3⟩ : ∃ a : List Int, Abs.ArgRel W (.sl .int a) (.slice b3 l3 c3) := by
    obtain ⟨m, hm⟩ := h3
    exact open_rep isI hm (by kernel_rfl) rfl
  have k4 := h4
  have lt4 : ∀ x ∈ p4, x.block < W.heap.size := by obtain ⟨m, hm⟩ := k4; exact DataW.trod_lt m _ _ _ hm
  obtain ⟨b4, l4, c4, rfl⟩ := okWide_slice Try.underlying37 (hval 4 37 v4 rfl rfl)
  obtain ⟨a4, ar4⟩ : ∃ a : List Int, Abs.ArgRel W (.sl .int a) (.slice b4 l4 c4) := by
    obtain ⟨m, hm⟩ := h4
    exact open_rep isI hm (by kernel_rfl) rfl
  obtain ⟨a5, rfl, rfl, rfl⟩ := open_bool Try.underlying4 (hval 5 4 v5 rfl rfl) h5
  have ar5 : Abs.ArgRel W (.bool a5) (.bool a5) := rfl
  clear hA0
  refine ((law_FnExactAfterMap a0 a1 a2 a3 a4 a5).2 W [.agg cs0, .agg cs1, .agg cs2, .slice b3 l3 c3, .slice b4 l4 c4, .bool a5] rfl (fun i x hx => by
    match i, hx with
    | 0, hx => cases hx; exact ⟨_, rfl, ar0⟩
    | 1, hx => cases hx; exact ⟨_, rfl, ar1⟩
    | 2, hx => cases hx; exact ⟨_, rfl, ar2⟩
    | 3, hx => cases hx; exact ⟨_, rfl, ar3⟩
    | 4, hx => cases hx; exact ⟨_, rfl, ar4⟩
    | 5, hx => cases hx; exact ⟨_, rfl, ar5⟩
    | i + 6, hx => simp at hx)).mono fun e W' ⟨r, he, bel, hr⟩ => ?_
  have hr' : r = .bool true := by
    have hr2 : IRel (fun b => W.heap.size ≤ b) W' .bool true r := hr
    simp only [IRel, Ty.isPr] at hr2
    have hr3 : Rep (fun b => W.heap.size ≤ b) W' .bool true [r] := hr2
    unfold Rep at hr3
    simpa using hr3
  subst hr'
  subst he
  exact ⟨_, rfl, _, _, _, [], _, [], hW', trodAll_mk1 (shut_bool Try.underlying4 _), (trodAll_cons_mk (Below.trod laidOut (by kernel_rfl) (of_decide_eq_true (by kernel_rfl)) k0 bel lt0) (trodAll_cons_mk (Below.trod laidOut (by kernel_rfl) (of_decide_eq_true (by kernel_rfl)) k1 bel lt1) (trodAll_cons_mk (Below.trod laidOut (by kernel_rfl) (of_decide_eq_true (by kernel_rfl)) k2 bel lt2) (trodAll_cons_mk (Below.trod laidOut (by kernel_rfl) (of_decide_eq_true (by kernel_rfl)) k3 bel lt3) (trodAll_cons_mk (Below.trod laidOut (by kernel_rfl) (of_decide_eq_true (by kernel_rfl)) k4 bel lt4) (trodAll_cons_mk (shut_bool Try.underlying4 a5) trodAll_mk0)))))), rfl, bel.frame _, fun h => by cases h⟩

theorem over : Rows.fnExactAfterMapRow.holds Try.pinned (OpenSpec.ofChange Rows.fnExactAfterMapSpec) :=
  OpenClaim.holds_of_wide 6 Try.f6 rfl rfl rfl rfl rfl rfl rfl ⟨rfl, rfl, rfl, rfl, rfl⟩ rfl rfl rfl rfl rfl (by kernel_rfl) Try.func6 (by kernel_rfl)
    (of_decide_eq_true (by kernel_rfl)) (by unfold Func.isWrapper; first | (rw [if_pos (by decide +kernel)]; kernel_rfl) | (rw [if_neg (by decide +kernel)]; exact ⟨rfl, rfl⟩))
    (fun os started H enc _ => lifted os started H enc)

theorem proved : Rows.FnExactAfterMapSaid := over
end Go.Proofs.Ytikclhackjjhfaa.fnExactAfterMap

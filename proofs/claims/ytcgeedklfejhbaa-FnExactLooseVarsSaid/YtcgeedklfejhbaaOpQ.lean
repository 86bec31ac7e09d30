/- What a law's arguments are: a struct of three fields. -/
import Derived.Test.YtcgeedklfejhbaaOrQ
namespace Go.Proofs.Ytcgeedklfejhbaa.Abs
open Go.RowKit
set_option linter.unusedVariables false
variable {H : Type} {enc : TypeId × Value → H} {P : Program} {w : World} {base : Nat} {spare : Nat → Bool} {held : Bool}
theorem open_good3 {a b c : Ty} {fuel : Nat} {t : TypeId} {cs : List Value} {x : DataW H × List MemPlace} (ht : ∃ f0 f1 f2, P.underlying t = some (.struct #[f0, f1, f2]) ∧ f0.offset = 0 ∧ f1.offset = a.n ∧ f2.offset = a.n + b.n ∧ P.cellsOf f0.type = a.n ∧ P.cellsOf f1.type = b.n ∧ P.cellsOf f2.type = c.n ∧ isTy P a f0.type ∧ isTy P b f1.type ∧ isTy P c f2.type)
    (h : DataW.trod enc P w base spare held fuel t cs = some x) (hct : P.cellsOf t = (Ty.pr a (.pr b c)).n) (hl : cs.length = (Ty.pr a (.pr b c)).n) : ∃ y, Rep (fun _ => True) w (.pr a (.pr b c)) y cs ∧ (Ty.pr a (.pr b c)).good y := by
  match fuel, h with
  | 0, h => unfold DataW.trod at h; cases h
  | fuel + 1, h =>
    obtain ⟨f0, f1, f2, hu, o0, o1, o2, c0, c1, c2, i0, i1, i2⟩ := ht
    unfold DataW.trod at h
    rw [hu] at h
    have h' : (if cs.length = P.cellsOf t then ([f0, f1, f2].mapM fun f => DataW.trod enc P w base spare held fuel f.type ((cs.drop f.offset).take (P.cellsOf f.type))).map fun xs => (.agg (xs.map (·.1)), xs.flatMap (·.2)) else none) = some x := by
      rcases cs with _ | ⟨d, _ | ⟨d', r⟩⟩ <;> simpa using h
    rw [if_pos (by rw [hl, hct]), Option.map_eq_some_iff] at h'
    obtain ⟨xs, hxs, _⟩ := h'
    obtain ⟨xa, _, ha⟩ := mapM_idx hxs 0 f0 rfl
    obtain ⟨xb, _, hb⟩ := mapM_idx hxs 1 f1 rfl
    obtain ⟨xc, _, hc⟩ := mapM_idx hxs 2 f2 rfl
    have hl' : cs.length = a.n + (b.n + c.n) := hl
    rw [o0, List.drop_zero, c0] at ha
    rw [o1, c1] at hb
    rw [o2, c2] at hc
    obtain ⟨y0, h0, z0⟩ := open_good i0 ha c0 (by rw [List.length_take]; omega)
    obtain ⟨y1, h1, z1⟩ := open_good i1 hb c1 (by rw [List.length_take, List.length_drop]; omega)
    obtain ⟨y2, h2, z2⟩ := open_good i2 hc c2 (by rw [List.length_take, List.length_drop]; omega)
    refine ⟨(y0, y1, y2), ?_, z0, z1, z2⟩
    unfold Rep
    refine ⟨cs.take a.n, cs.drop a.n, (List.take_append_drop _ _).symm, h0, ?_⟩
    unfold Rep
    refine ⟨(cs.drop a.n).take b.n, (cs.drop a.n).drop b.n, (List.take_append_drop _ _).symm, h1, ?_⟩
    rw [List.drop_drop]
    rw [List.take_of_length_le (by rw [List.length_drop]; omega)] at h2
    exact h2
end Go.Proofs.Ytcgeedklfejhbaa.Abs

/- Functions whose one result is an array, in a cell. -/
import Derived.Test.YtlfdimhnielleaaQgVPolygonSpace
import Derived.Laws.ResultCell
import Derived.Laws.Rows
namespace Go.Proofs.Ytlfdimhnielleaa.M
open Go.RowKit Abs
set_option linter.unusedSimpArgs false
set_option linter.unusedVariables false
set_option maxRecDepth 100000
set_option maxHeartbeats 4000000
def endAP (k : Nat) (ρ : List Nat) (p n : Nat) (res : List AV) (post : Hp) (e : AX) (S : AS) : Prop :=
  goodX e ∧ (match S.tm.getD p .undef with
    | .eptr nb _ 0 => (match S.H[nb]? with
      | some (some (.arr _ q t l)) => (if ((q + 1) * t.n == n) = true then True else False) ∧ AVleL S.H.length [.agg (.ar q t) l] (renL ρ res)
      | _ => False)
    | _ => False) ∧ postP S.H.length ρ S.H ρ post ∧ (if (S.k == k && okB k ρ res post) = true then True else False)
theorem endAP.get {k : Nat} {ρ : List Nat} {p n : Nat} {res : List AV} {post : Hp} {e : AX} {S : AS} (h : endAP k ρ p n res post e S) : goodX e ∧ okB k ρ res post = true ∧ S.k = k ∧
    (∃ nb i0 e0 q t l, S.tm.getD p .undef = .eptr nb i0 0 ∧ S.H[nb]? = some (some (.arr e0 q t l)) ∧ (q + 1) * t.n = n ∧ AVleL S.H.length [.agg (.ar q t) l] (renL ρ res)) ∧ postP S.H.length ρ S.H ρ post := by
  obtain ⟨h0, h1, h2, h3⟩ := h
  have h4 := if_true_iff h3
  simp only [Bool.and_eq_true, beq_iff_eq] at h4
  refine ⟨h0, h4.2, h4.1, ?_, h2⟩
  split at h1
  · rename_i nb i0 hp
    split at h1
    · rename_i e0 q t l hb
      have h5 := if_true_iff h1.1
      exact ⟨nb, i0, e0, q, t, l, hp, hb, by simpa using h5, h1.2⟩
    · exact h1.elim
  · exact h1.elim
end Go.Proofs.Ytlfdimhnielleaa.M

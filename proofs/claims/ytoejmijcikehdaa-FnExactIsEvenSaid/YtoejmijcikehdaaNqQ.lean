/- Nil slices of rows in results. -/
import Derived.Test.YtoejmijcikehdaaNrQ
import Derived.Test.YtoejmijcikehdaaRgQ
namespace Go.Proofs.Ytoejmijcikehdaa.M
open Go.RowKit Abs
set_option linter.unusedSimpArgs false
set_option linter.unusedVariables false
set_option maxRecDepth 100000
set_option maxHeartbeats 4000000
theorem EndG.nilR {k : Nat} (e0 e2 : TypeId) (t : Ty) (ps : List At) (ρ : List Nat) {rs : List RK} {res : List AV} {post : Hp} {e : AX} {S : AS} (h : endGP k ρ rs res post e (S.nilR e0 e2 t ps)) : EndG k rs res post e S := by
  obtain ⟨h0, h1, h2, h3, h4⟩ := h.get
  exact ⟨fun x hx => hx ▸ h0, fun w0 B hd a w val hR => by
    obtain ⟨val', hR'⟩ := hR.nilR e0 e2 t ps
    exact ⟨_, val', hR', ρ, h1, h2, h3, h4⟩⟩
end Go.Proofs.Ytoejmijcikehdaa.M

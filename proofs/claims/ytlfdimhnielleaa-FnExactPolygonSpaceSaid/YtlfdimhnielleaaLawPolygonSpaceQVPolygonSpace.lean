/- The law FnExactPolygonSpace. -/
import Derived.Test.YtlfdimhnielleaaQiVPolygonSpace
import Derived.Test.YtlfdimhnielleaaQkVPolygonSpace
namespace Go.Proofs.Ytlfdimhnielleaa.M
open Go.RowKit Abs
set_option linter.unusedSimpArgs false
set_option linter.unusedVariables false
set_option maxRecDepth 100000
set_option maxHeartbeats 4000000
set_option maxHeartbeats 8000000
theorem law2_PolygonSpace (v0 : Int) : Spec2 Try.prog 3 [.int fun _ => v0] [] [.bool fun _ => true] [] := by
  obtain ⟨h1, h2⟩ := polG_facts v0
  have h3 : ∀ k : Int, 0 ≤ k → k < (polG v0).length → (getR .int (polG v0) k).length ≤ 1048576 := fun k k0 k1 => by
    have := (h2 _ (getR_mem k0 k1)).2.2
    omega
  have h4 := tot_small (polG v0) fun s hs => (h2 s hs).2.2
  have h5 := wTo_len2 (fun i j => jmpB (getR .int (polG v0) i) (getR .int (polG v0) j)) (m := ((polG v0).length : Int)) (by omega) (polG v0).length
  have h6 : (polQ v0).length ≤ 1048576 := by
    unfold polQ
    omega
  exact law2_PolygonSpace0 v0 (polG v0) (polQ v0) (polyB v0) (sp_polySpace v0 (by omega) h3) (im_polySpace v0 (by omega) h3) (by omega) h3 h6 (by omega)
end Go.Proofs.Ytlfdimhnielleaa.M
namespace Go.Proofs.Ytlfdimhnielleaa.Abs
theorem law_FnExactPolygonSpace (v0 : Int) : Spec Try.prog 3 [.int v0] [.im .bool true] := by
  exact M.toSpec (M.law2_PolygonSpace v0) M.rBool
end Go.Proofs.Ytlfdimhnielleaa.Abs
namespace Go.Proofs.Ytlfdimhnielleaa.M
end Go.Proofs.Ytlfdimhnielleaa.M

/- Calls of closures. -/
import Derived.Test.YtllmaggpglmaeaaAbs17
namespace Go.Proofs.Ytllmaggpglmaeaa.Abs
open Go.RowKit
set_option linter.unusedVariables false
section
variable {P : Program} {Q : AS → Prop} {S : AS} {ops r : List Oper} {o : Oper}
theorem call_qq {c : Call} {fo : Operand} {f : FuncId} {cap : List TV} {args : List AV} {res : List Res} (hop : o.op = .call c) (hc : c.callee = .value fo) (hf : S.ev fo = .fn f cap) (hs : Spec P f (args ++ cap.map fun c => .iptr c.1 c.2) res)
    (ha : argsOk S (c.args.toList.map S.ev) args) : qcall P S o (resAV res) := by
  unfold qcall
  rw [hop]
  simp only [hc, hf]
  exact ⟨args, res, ha, hs, rfl⟩
theorem aqui_cc {c : Call} {fo : Operand} {f : FuncId} {cap : List TV} {args : List AV} {res : List Res} (hs : Spec P f (args ++ cap.map fun c => .iptr c.1 c.2) res) (hg : gd S ops o = some true) (hop : o.op = .call c) (hc : c.callee = .value fo) (hf : S.ev fo = .fn f cap)
    (ha : argsOk S (c.args.toList.map S.ev) args) (h : ∀ K : AS → Prop, (∀ S', Quis P ops Q r S' → K S') → K (S.put o.dst (resAV res))) : Quis P ops Q (o :: r) S := by
  constructor
  unfold aqui
  rw [hg]
  exact ⟨_, .inr (call_qq hop hc hf hs ha), h _ fun _ h => h.out⟩
theorem aseq_cc {c : Call} {fo : Operand} {f : FuncId} {cap : List TV} {args : List AV} {res : List Res} (hs : Spec P f (args ++ cap.map fun c => .iptr c.1 c.2) res) (hg : gd S ops o = some true) (hop : o.op = .call c) (hc : c.callee = .value fo) (hf : S.ev fo = .fn f cap)
    (ha : argsOk S (c.args.toList.map S.ev) args) (h : ∀ K : AS → Prop, (∀ S', Seqs P ops Q r S' → K S') → K (S.put o.dst (resAV res))) : Seqs P ops Q (o :: r) S := by
  constructor
  unfold aseq
  rw [hg]
  simp only
  unfold sstep
  rw [hop]
  simp only [hc]
  exact .inl ⟨_, call_qq hop hc hf hs ha, h _ fun _ h => h.out⟩
end
end Go.Proofs.Ytllmaggpglmaeaa.Abs

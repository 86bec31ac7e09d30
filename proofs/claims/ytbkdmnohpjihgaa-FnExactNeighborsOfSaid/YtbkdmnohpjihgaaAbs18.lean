/- Calls of closures. -/
import Derived.Test.YtbkdmnohpjihgaaAbs17
namespace Go.Proofs.Ytbkdmnohpjihgaa.Abs
open Go.RowKit
set_option linter.unusedVariables false
section
variable {P : Program} {Q : AS → Prop} {S : AS} {ops r : List Oper} {o : Oper}
theorem call_qq {c : Call} {fo : Operand} {f : FuncId} {cap : List TV} {args : List AV} {res : List Res} (hop : o.op = .call c) (hc : c.callee = .value fo) (hf : S.ev fo = .fn f cap) (hs : Spec P f (args ++ cap.map fun c => .iptr c.1 c.2) res)
    (ha : argsOk S (c.args.toList.map S.ev) args) : qcall P S o (resAV res) := by
  unfold qcall
  rw [hop]
  simp only [hc, hf]
  exact ⟨args, res, ha, hs, rfl⟩
theorem aqui_cc {c : Call} {fo : Operand} {f : FuncId} {cap : List TV} {args : List AV} {res : List Res} (hs : Spec P f (args ++ cap.map fun c => .iptr c.1 c.2) res) (hg : gd S ops o = some true) (hop : o.op = .call c) (hc : c.callee = .value fo) (hf : S.ev fo = .fn f cap)
    (ha : argsOk S (c.args.toList.map S.ev) args) (h : ∀ K : AS → Prop, (∀ S', Quis P ops Q r S' → K S') → K (S.put o.dst (resAV res))) : Quis P ops Q (o :: r) S := by
  constructor
  unfold aqui
  rw [hg]
  exact ⟨_, .inr (call_qq hop hc hf hs ha), h _ fun _ h => h.out⟩
theorem aseq_cc {c : Call} {fo : Operand} {f : FuncId} {cap : List TV} {args : List AV} {res : List Res} (hs : Spec P f (args ++ cap.map fun c => .iptr c.1 c.2) res) (hg : gd S ops o = some true) (hop : o.op = .call c) (hc : c.callee = .value fo) (hf : S.ev fo = .fn f cap)
    (ha : argsOk S (c.args.toList.map S.ev) args) (h : ∀ K : AS → Prop, (∀ S', Seqs P ops Q r S' → K S') → K (S.put o.dst (resAV res))) : Seqs P ops Q (o :: r) S := by
  constructor
  unfold aseq
  rw [hg]
  simp only
  unfold sstep
  rw [hop]
  simp only [hc]
  exact .inl ⟨_, call_qq hop hc hf hs ha, h _ fun _ h => h.out⟩
theorem aseq_v {src dst : TypeId} {x : Operand} {v : AV} (hop : o.op = .convert src dst x) (hv : qval P S o v) (hg : gd S ops o = some true) (h : ∀ K : AS → Prop, (∀ S', Seqs P ops Q r S' → K S') → K (S.put o.dst v)) : Seqs P ops Q (o :: r) S := by
  constructor
  unfold aseq
  rw [hg]
  simp only
  unfold sstep
  rw [hop]
  exact ⟨_, hv, h _ fun _ h => h.out⟩
theorem to_u64 {src dst : TypeId} {x : Operand} {k : Int} (hop : o.op = .convert src dst x) (hs : P.underlying src = some (.int .i64)) (hd : P.underlying dst = some (.int .u64)) (hx : S.ev x = .int k) (h0 : 0 ≤ k) (h1 : k ≤ 9223372036854775807) : qval P S o (.u64 k) := by
  unfold qval
  rw [hop]
  simp only [hx]
  refine ⟨⟨_, hs⟩, .inr ⟨hd, ?_⟩⟩
  have e : IntKind.u64.wrap k = k := by
    have h2 : (2 : Int) ^ IntKind.u64.bits = 18446744073709551616 := by decide
    have h3 : (2 : Int) ^ (IntKind.u64.bits - 1) = 9223372036854775808 := by decide
    simp [IntKind.wrap, h2, h3, IntKind.signed]
    omega
  rw [e]
theorem of_u64 {src dst : TypeId} {x : Operand} {k : Int} (hop : o.op = .convert src dst x) (hs : P.underlying src = some (.int .u64)) (hd : P.underlying dst = some (.int .i64)) (hx : S.ev x = .u64 k) (h0 : 0 ≤ k) (h1 : k ≤ 9223372036854775807) : qval P S o (.int k) := by
  unfold qval
  rw [hop]
  simp only [hx]
  exact ⟨⟨_, hs⟩, hd, by rw [wrap_id k (by omega) h1]⟩
end
end Go.Proofs.Ytbkdmnohpjihgaa.Abs

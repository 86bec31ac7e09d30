/- Steps for the walk. -/
import Derived.Test.YtbkdmnohpjihgaaAbs14
namespace Go.Proofs.Ytbkdmnohpjihgaa.Abs
open Go.RowKit
set_option linter.unusedVariables false
/-- The same, as a word that nothing looks into. -/
structure Seqs (P : Program) (ops : List Oper) (Q : AS → Prop) (l : List Oper) (S : AS) : Prop where
  out : aseq P ops Q l S
structure Quis (P : Program) (ops : List Oper) (Q : AS → Prop) (l : List Oper) (S : AS) : Prop where
  out : aqui P ops Q l S
structure W (P : Program) (c : Code) (Q : AX → AS → Prop) (S : AS) : Prop where
  out : AWp P c Q S
section
variable {P : Program} {Q : AS → Prop} {S : AS} {ops r : List Oper} {o : Oper}
theorem aseq_end (h : Q S) : Seqs P ops Q [] S := ⟨h⟩
theorem aqui_end (h : Q S) : Quis P ops Q [] S := ⟨h⟩
theorem aseq_u (hg : o.guard = none) (h : ∀ K : AS → Prop, (∀ S', Seqs P ops Q r S' → K S') → sstep P S o K) : Seqs P ops Q (o :: r) S := by
  constructor
  have : gd S ops o = some true := by unfold gd; rw [hg]
  unfold aseq
  rw [this]
  exact h _ fun _ h => h.out
theorem aseq_t {j : Nat} {want : Bool} {t : Tmp} {b : Bool} (hg : o.guard = some (j, want)) (hj : (ops[j]?).bind (·.dst) = some t) (hb : S.tm[t]? = some (.bool b)) (hw : (b == want) = true)
    (h : ∀ K : AS → Prop, (∀ S', Seqs P ops Q r S' → K S') → sstep P S o K) : Seqs P ops Q (o :: r) S := by
  constructor
  have : gd S ops o = some true := by unfold gd; rw [hg]; simp only [hj, hb, hw]
  unfold aseq
  rw [this]
  exact h _ fun _ h => h.out
theorem aseq_f {j : Nat} {want : Bool} {t : Tmp} {b : Bool} (hg : o.guard = some (j, want)) (hj : (ops[j]?).bind (·.dst) = some t) (hb : S.tm[t]? = some (.bool b)) (hw : (b == want) = false)
    (h : ∀ K : AS → Prop, (∀ S', Seqs P ops Q r S' → K S') → K (S.put o.dst .undef)) : Seqs P ops Q (o :: r) S := by
  constructor
  have : gd S ops o = some false := by unfold gd; rw [hg]; simp only [hj, hb, hw]
  unfold aseq
  rw [this]
  exact h _ fun _ h => h.out
theorem aseq_n {j : Nat} {want : Bool} {t : Tmp} (hg : o.guard = some (j, want)) (hj : (ops[j]?).bind (·.dst) = some t) (hb : S.tm[t]? = some .undef)
    (h : ∀ K : AS → Prop, (∀ S', Seqs P ops Q r S' → K S') → K (S.put o.dst .undef)) : Seqs P ops Q (o :: r) S := by
  constructor
  have : gd S ops o = some false := by unfold gd; rw [hg]; simp only [hj, hb]
  unfold aseq
  rw [this]
  exact h _ fun _ h => h.out
theorem aqui_u (hg : o.guard = none) (h : ∀ K : AS → Prop, (∀ S', Quis P ops Q r S' → K S') → ∃ v, qstep P S o v ∧ K (S.put o.dst v)) : Quis P ops Q (o :: r) S := by
  constructor
  have : gd S ops o = some true := by unfold gd; rw [hg]
  unfold aqui
  rw [this]
  exact h _ fun _ h => h.out
theorem aqui_t {j : Nat} {want : Bool} {t : Tmp} {b : Bool} (hg : o.guard = some (j, want)) (hj : (ops[j]?).bind (·.dst) = some t) (hb : S.tm[t]? = some (.bool b)) (hw : (b == want) = true)
    (h : ∀ K : AS → Prop, (∀ S', Quis P ops Q r S' → K S') → ∃ v, qstep P S o v ∧ K (S.put o.dst v)) : Quis P ops Q (o :: r) S := by
  constructor
  have : gd S ops o = some true := by unfold gd; rw [hg]; simp only [hj, hb, hw]
  unfold aqui
  rw [this]
  exact h _ fun _ h => h.out
theorem aqui_f {j : Nat} {want : Bool} {t : Tmp} {b : Bool} (hg : o.guard = some (j, want)) (hj : (ops[j]?).bind (·.dst) = some t) (hb : S.tm[t]? = some (.bool b)) (hw : (b == want) = false)
    (h : ∀ K : AS → Prop, (∀ S', Quis P ops Q r S' → K S') → K (S.put o.dst .undef)) : Quis P ops Q (o :: r) S := by
  constructor
  have : gd S ops o = some false := by unfold gd; rw [hg]; simp only [hj, hb, hw]
  unfold aqui
  rw [this]
  exact h _ fun _ h => h.out
theorem aqui_n {j : Nat} {want : Bool} {t : Tmp} (hg : o.guard = some (j, want)) (hj : (ops[j]?).bind (·.dst) = some t) (hb : S.tm[t]? = some .undef)
    (h : ∀ K : AS → Prop, (∀ S', Quis P ops Q r S' → K S') → K (S.put o.dst .undef)) : Quis P ops Q (o :: r) S := by
  constructor
  have : gd S ops o = some false := by unfold gd; rw [hg]; simp only [hj, hb]
  unfold aqui
  rw [this]
  exact h _ fun _ h => h.out
/-- A call by what is known of the function. -/
theorem call_q {c : Call} {fo : Operand} {f : FuncId} {args : List AV} {res : List Res} (hop : o.op = .call c) (hc : c.callee = .value fo) (hf : S.ev fo = .fn f []) (hs : Spec P f args res)
    (ha : argsOk S (c.args.toList.map S.ev) args) : qcall P S o (resAV res) := by
  unfold qcall
  rw [hop]
  simp only [hc, hf]
  exact ⟨args, res, ha, by simpa using hs, rfl⟩
theorem aqui_c {c : Call} {fo : Operand} {f : FuncId} {args : List AV} {res : List Res} (hs : Spec P f args res) (hg : gd S ops o = some true) (hop : o.op = .call c) (hc : c.callee = .value fo) (hf : S.ev fo = .fn f [])
    (ha : argsOk S (c.args.toList.map S.ev) args) (h : ∀ K : AS → Prop, (∀ S', Quis P ops Q r S' → K S') → K (S.put o.dst (resAV res))) : Quis P ops Q (o :: r) S := by
  constructor
  unfold aqui
  rw [hg]
  exact ⟨_, .inr (call_q hop hc hf hs ha), h _ fun _ h => h.out⟩
theorem aseq_c {c : Call} {fo : Operand} {f : FuncId} {args : List AV} {res : List Res} (hs : Spec P f args res) (hg : gd S ops o = some true) (hop : o.op = .call c) (hc : c.callee = .value fo) (hf : S.ev fo = .fn f [])
    (ha : argsOk S (c.args.toList.map S.ev) args) (h : ∀ K : AS → Prop, (∀ S', Seqs P ops Q r S' → K S') → K (S.put o.dst (resAV res))) : Seqs P ops Q (o :: r) S := by
  constructor
  unfold aseq
  rw [hg]
  simp only
  unfold sstep
  rw [hop]
  simp only [hc]
  exact .inl ⟨_, call_q hop hc hf hs ha, h _ fun _ h => h.out⟩
theorem aseq_co {c : Call} {fo : Operand} {f : FuncId} {args : List AV} {e : TypeId} {t : Ty} {l : List t.den} (hs : Spec P f args [.own e t l]) (hg : gd S ops o = some true) (hop : o.op = .call c) (hc : c.callee = .value fo) (hf : S.ev fo = .fn f [])
    (ha : argsOk S (c.args.toList.map S.ev) args) (h : ∀ K : AS → Prop, (∀ S', Seqs P ops Q r S' → K S') → K (S.new o.dst (.ref S.H.length) (.row e t l))) : Seqs P ops Q (o :: r) S := by
  constructor
  unfold aseq
  rw [hg]
  simp only
  unfold sstep
  rw [hop]
  simp only [hc]
  refine .inr ?_
  rw [hf]
  exact ⟨args, e, t, l, ha, by simpa using hs, h _ fun _ h => h.out⟩
theorem qstep_val {K : AS → Prop} (h : ∃ v, qval P S o v ∧ K (S.put o.dst v)) : ∃ v, qstep P S o v ∧ K (S.put o.dst v) := let ⟨v, h1, h2⟩ := h; ⟨v, .inl h1, h2⟩
end
section
variable {P : Program} {Q : AX → AS → Prop} {S : AS}
theorem W.len {c : Code} (t : Tmp) {tt : Ty} {l : List tt.den} (ht : S.tm[t]? = some (.sl tt l)) (h : l.length ≤ 9223372036854775807 → W P c Q S) : W P c Q S := by
  refine ⟨fun w0 a w val hR => ?_⟩
  obtain ⟨u, _, hu⟩ := hR.getTmp ht
  have hu' : Rep _ w (.sl tt) l [u] := hu
  unfold Rep at hu'
  obtain ⟨_, _, _, _, h3, _⟩ := hu'
  exact (h (by unfold maxLen at h3; omega)).out w0 a w val hR
theorem W.skip (h : Q .normal S) : W P .skip Q S := ⟨AWp.skip h⟩
theorem W.exit {id : Nat} (h : Q (.exit id) S) : W P (.exit id) Q S := ⟨AWp.exit h⟩
theorem W.ret (h : Q .ret S) : W P .ret Q S := ⟨AWp.ret h⟩
theorem W.label {l : Nat} (h : Q .normal S) : W P (.label l) Q S := ⟨AWp.label h⟩
theorem W.seq {x y : Code} (h : ∀ K : AS → Prop, (∀ S', W P y Q S' → K S') → W P x (AX.seqd K Q) S) : W P (.seq x y) Q S := ⟨AWp.seq fun K hK => (h K fun S' h' => hK S' h'.out).out⟩
theorem W.cond {c : Operand} {x y : Code} (t : Bool) (hc : S.ev c = .bool t) (h1 : t = true → W P x Q S) (h2 : t = false → W P y Q S) : W P (.cond c x y) Q S := by
  cases t
  · exact ⟨AWp.cond_f hc (h2 rfl).out⟩
  · exact ⟨AWp.cond_t hc (h1 rfl).out⟩
theorem W.cond_t {c : Operand} {x y : Code} (hc : S.ev c = .bool true) (h : W P x Q S) : W P (.cond c x y) Q S := ⟨AWp.cond_t hc h.out⟩
theorem W.cond_f {c : Operand} {x y : Code} (hc : S.ev c = .bool false) (h : W P y Q S) : W P (.cond c x y) Q S := ⟨AWp.cond_f hc h.out⟩
theorem W.block {id : Nat} {c : Code} (h : W P c (AX.blk id Q) S) : W P (.block id c) Q S := ⟨AWp.block h.out⟩
theorem W.region {id : Nat} {l : List Oper} (h : Seqs P l (Q .normal) l S) : W P (.region id l.toArray false) Q S := ⟨AWp.region h.out⟩
theorem W.any {id : Nat} {l : List Oper} (hm : P.follows .mixedOrders = true) (hB : anyB l.toArray = true) (h : Quis P l (Q .normal) l S) : W P (.region id l.toArray true) Q S := ⟨AWp.any hm hB h.out⟩
theorem W.tail {id : Nat} {l : List Oper} (n : Nat) (hm : P.follows .mixedOrders = true) (hB : tailB l.toArray n = true) (h : Quis P l (Seqs P l (Q .normal) (l.drop n)) (l.take n) S) : W P (.region id l.toArray true) Q S := by
  refine ⟨AWp.tail n hm hB ?_⟩
  have mono : ∀ {Q1 Q2 : AS → Prop} (hq : ∀ S, Q1 S → Q2 S) (r : List Oper) (S : AS), aqui P l Q1 r S → aqui P l Q2 r S := by
    intro Q1 Q2 hq r
    induction r with
    | nil => exact fun S h => hq S h
    | cons o r ih =>
      intro S h
      unfold aqui at h ⊢
      cases hg : gd S l o with
      | none => rw [hg] at h; exact h
      | some b =>
        rw [hg] at h
        cases b
        · exact ih _ h
        · obtain ⟨v, h1, h2⟩ := h; exact ⟨v, h1, ih _ h2⟩
  exact mono (fun S h => h.out) _ _ h.out
theorem W.weak {c : Code} {S' : AS} (σ : List Nat) (hw : Weak σ S S') (h : W P c Q S') : W P c Q S := ⟨AWp.weak σ hw h.out⟩
theorem W.loop {c : Code} {X : Type} (st : X → AS) (m : X → Nat) (x0 : X) (σ : List Nat) (hw : Weak σ S (st x0))
    (round : ∀ x, W P c (AX.seqd (fun S' => ∃ y σ, m y < m x ∧ Weak σ S' (st y)) Q) (st x)) : W P (.loop c) Q S := ⟨AWp.loop st m x0 σ hw fun x => (round x).out⟩
theorem W.fn1 {f : FuncId} {fn : Func} {c : Code} {args : List AV} {t : Tmp} {r : Res} (hf : P.funcs[f]? = some fn) (hb : fn.body = some c) (hname : (fn.name != "runtime.NumGoroutine") = true) (hnt : args.length ≤ fn.ntmps) (hres : fn.results = #[.tmp t])
    (h : W P c (fun e S => (e = .normal ∨ e = .ret) ∧ resV S (S.tm.getD t .undef) r) ⟨args ++ List.replicate (fn.ntmps - args.length) .undef, []⟩) : Spec P f args [r] := Spec.of1 hf hb hname hnt hres h.out
theorem W.fn2 {f : FuncId} {fn : Func} {c : Code} {args : List AV} {t u : Tmp} {r1 r2 : Res} (hf : P.funcs[f]? = some fn) (hb : fn.body = some c) (hname : (fn.name != "runtime.NumGoroutine") = true) (hnt : args.length ≤ fn.ntmps)
    (hres : fn.results = #[.tmp t, .tmp u])
    (h : W P c (fun e S => (e = .normal ∨ e = .ret) ∧ resV S (S.tm.getD t .undef) r1 ∧ resV S (S.tm.getD u .undef) r2 ∧ (∀ n, S.tm.getD t .undef = .ref n → S.tm.getD u .undef ≠ .ref n)) ⟨args ++ List.replicate (fn.ntmps - args.length) .undef, []⟩) :
    Spec P f args [r1, r2] := Spec.of2 hf hb hname hnt hres h.out
end
theorem wrap_id (x : Int) (h1 : -9223372036854775808 ≤ x) (h2 : x ≤ 9223372036854775807) : IntKind.i64.wrap x = x := by
  rw [IntKind.wrap_i64]; omega
end Go.Proofs.Ytbkdmnohpjihgaa.Abs

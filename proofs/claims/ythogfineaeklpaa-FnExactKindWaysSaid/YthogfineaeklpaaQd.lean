/- Abs15, Abs16, Abs17, Abs18, Abs19, Tab, Pairs, Pairs2, Pairs3, Pairs4, Pairs5, Ints, IntMarks, PairMarks, Graph, Grid, GridCopy, Space, SpaceCopy, Bridge, Bridge2, in one text. -/
import Derived.Test.YthogfineaeklpaaQa
import Derived.ChangeOld
import Derived.WideShapes
import Derived.Test.YthogfineaeklpaaProg
import Derived.WalkKit
import Derived.WalkLawsBesides
import Derived.Below
import Derived.OwnWalk
import Derived.Maps.AppendAt
import Derived.WalkSpells
import Derived.Lib.Hide
import Derived.Deep.QuietTactic
import Derived.BigQuiet
import Derived.Outline
import Derived.Laws.Rows
import Derived.Lib.QuietBelow
/- Steps for the walk. -/
namespace Go.Proofs.Ythogfineaeklpaa.Abs
open Go.RowKit
set_option linter.unusedVariables false
/-- The same, as a word that nothing looks into. -/
structure Seqs (P : Program) (ops : List Oper) (Q : AS → Prop) (l : List Oper) (S : AS) : Prop where
  out : aseq P ops Q l S
structure Quis (P : Program) (ops : List Oper) (Q : AS → Prop) (l : List Oper) (S : AS) : Prop where
  out : aqui P ops Q l S
structure W (P : Program) (c : Code) (Q : AX → AS → Prop) (S : AS) : Prop where
  out : AWp P c Q S
section
variable {P : Program} {Q : AS → Prop} {S : AS} {ops r : List Oper} {o : Oper}
theorem aseq_end (h : Q S) : Seqs P ops Q [] S := ⟨h⟩
theorem aqui_end (h : Q S) : Quis P ops Q [] S := ⟨h⟩
theorem aseq_u (hg : o.guard = none) (h : ∀ K : AS → Prop, (∀ S', Seqs P ops Q r S' → K S') → sstep P S o K) : Seqs P ops Q (o :: r) S := by
  constructor
  have : gd S ops o = some true := by unfold gd; rw [hg]
  unfold aseq
  rw [this]
  exact h _ fun _ h => h.out
theorem aseq_t {j : Nat} {want : Bool} {t : Tmp} {b : Bool} (hg : o.guard = some (j, want)) (hj : (ops[j]?).bind (·.dst) = some t) (hb : S.tm[t]? = some (.bool b)) (hw : (b == want) = true)
    (h : ∀ K : AS → Prop, (∀ S', Seqs P ops Q r S' → K S') → sstep P S o K) : Seqs P ops Q (o :: r) S := by
  constructor
  have : gd S ops o = some true := by unfold gd; rw [hg]; simp only [hj, hb, hw]
  unfold aseq
  rw [this]
  exact h _ fun _ h => h.out
theorem aseq_f {j : Nat} {want : Bool} {t : Tmp} {b : Bool} (hg : o.guard = some (j, want)) (hj : (ops[j]?).bind (·.dst) = some t) (hb : S.tm[t]? = some (.bool b)) (hw : (b == want) = false)
    (h : ∀ K : AS → Prop, (∀ S', Seqs P ops Q r S' → K S') → K (S.put o.dst .undef)) : Seqs P ops Q (o :: r) S := by
  constructor
  have : gd S ops o = some false := by unfold gd; rw [hg]; simp only [hj, hb, hw]
  unfold aseq
  rw [this]
  exact h _ fun _ h => h.out
theorem aseq_n {j : Nat} {want : Bool} {t : Tmp} (hg : o.guard = some (j, want)) (hj : (ops[j]?).bind (·.dst) = some t) (hb : S.tm[t]? = some .undef)
    (h : ∀ K : AS → Prop, (∀ S', Seqs P ops Q r S' → K S') → K (S.put o.dst .undef)) : Seqs P ops Q (o :: r) S := by
  constructor
  have : gd S ops o = some false := by unfold gd; rw [hg]; simp only [hj, hb]
  unfold aseq
  rw [this]
  exact h _ fun _ h => h.out
theorem aqui_u (hg : o.guard = none) (h : ∀ K : AS → Prop, (∀ S', Quis P ops Q r S' → K S') → ∃ v, qstep P S o v ∧ K (S.put o.dst v)) : Quis P ops Q (o :: r) S := by
  constructor
  have : gd S ops o = some true := by unfold gd; rw [hg]
  unfold aqui
  rw [this]
  exact h _ fun _ h => h.out
theorem aqui_t {j : Nat} {want : Bool} {t : Tmp} {b : Bool} (hg : o.guard = some (j, want)) (hj : (ops[j]?).bind (·.dst) = some t) (hb : S.tm[t]? = some (.bool b)) (hw : (b == want) = true)
    (h : ∀ K : AS → Prop, (∀ S', Quis P ops Q r S' → K S') → ∃ v, qstep P S o v ∧ K (S.put o.dst v)) : Quis P ops Q (o :: r) S := by
  constructor
  have : gd S ops o = some true := by unfold gd; rw [hg]; simp only [hj, hb, hw]
  unfold aqui
  rw [this]
  exact h _ fun _ h => h.out
theorem aqui_f {j : Nat} {want : Bool} {t : Tmp} {b : Bool} (hg : o.guard = some (j, want)) (hj : (ops[j]?).bind (·.dst) = some t) (hb : S.tm[t]? = some (.bool b)) (hw : (b == want) = false)
    (h : ∀ K : AS → Prop, (∀ S', Quis P ops Q r S' → K S') → K (S.put o.dst .undef)) : Quis P ops Q (o :: r) S := by
  constructor
  have : gd S ops o = some false := by unfold gd; rw [hg]; simp only [hj, hb, hw]
  unfold aqui
  rw [this]
  exact h _ fun _ h => h.out
theorem aqui_n {j : Nat} {want : Bool} {t : Tmp} (hg : o.guard = some (j, want)) (hj : (ops[j]?).bind (·.dst) = some t) (hb : S.tm[t]? = some .undef)
    (h : ∀ K : AS → Prop, (∀ S', Quis P ops Q r S' → K S') → K (S.put o.dst .undef)) : Quis P ops Q (o :: r) S := by
  constructor
  have : gd S ops o = some false := by unfold gd; rw [hg]; simp only [hj, hb]
  unfold aqui
  rw [this]
  exact h _ fun _ h => h.out
/-- A call by what is known of the function. -/
theorem call_q {c : Call} {fo : Operand} {f : FuncId} {args : List AV} {res : List Res} (hop : o.op = .call c) (hc : c.callee = .value fo) (hf : S.ev fo = .fn f []) (hs : Spec P f args res)
    (ha : argsOk S (c.args.toList.map S.ev) args) : qcall P S o (resAV res) := by
  unfold qcall
  rw [hop]
  simp only [hc, hf]
  exact ⟨args, res, ha, by simpa using hs, rfl⟩
theorem aqui_c {c : Call} {fo : Operand} {f : FuncId} {args : List AV} {res : List Res} (hs : Spec P f args res) (hg : gd S ops o = some true) (hop : o.op = .call c) (hc : c.callee = .value fo) (hf : S.ev fo = .fn f [])
    (ha : argsOk S (c.args.toList.map S.ev) args) (h : ∀ K : AS → Prop, (∀ S', Quis P ops Q r S' → K S') → K (S.put o.dst (resAV res))) : Quis P ops Q (o :: r) S := by
  constructor
  unfold aqui
  rw [hg]
  exact ⟨_, .inr (call_q hop hc hf hs ha), h _ fun _ h => h.out⟩
theorem aseq_c {c : Call} {fo : Operand} {f : FuncId} {args : List AV} {res : List Res} (hs : Spec P f args res) (hg : gd S ops o = some true) (hop : o.op = .call c) (hc : c.callee = .value fo) (hf : S.ev fo = .fn f [])
    (ha : argsOk S (c.args.toList.map S.ev) args) (h : ∀ K : AS → Prop, (∀ S', Seqs P ops Q r S' → K S') → K (S.put o.dst (resAV res))) : Seqs P ops Q (o :: r) S := by
  constructor
  unfold aseq
  rw [hg]
  simp only
  unfold sstep
  rw [hop]
  simp only [hc]
  exact .inl ⟨_, call_q hop hc hf hs ha, h _ fun _ h => h.out⟩
theorem aseq_co {c : Call} {fo : Operand} {f : FuncId} {args : List AV} {e : TypeId} {t : Ty} {l : List t.den} (hs : Spec P f args [.own e t l]) (hg : gd S ops o = some true) (hop : o.op = .call c) (hc : c.callee = .value fo) (hf : S.ev fo = .fn f [])
    (ha : argsOk S (c.args.toList.map S.ev) args) (h : ∀ K : AS → Prop, (∀ S', Seqs P ops Q r S' → K S') → K (S.new o.dst (.ref S.H.length) (.row e t l))) : Seqs P ops Q (o :: r) S := by
  constructor
  unfold aseq
  rw [hg]
  simp only
  unfold sstep
  rw [hop]
  simp only [hc]
  refine .inr ?_
  rw [hf]
  exact ⟨args, e, t, l, ha, by simpa using hs, h _ fun _ h => h.out⟩
theorem qstep_val {K : AS → Prop} (h : ∃ v, qval P S o v ∧ K (S.put o.dst v)) : ∃ v, qstep P S o v ∧ K (S.put o.dst v) := let ⟨v, h1, h2⟩ := h; ⟨v, .inl h1, h2⟩
end
section
variable {P : Program} {Q : AX → AS → Prop} {S : AS}
theorem W.len {c : Code} (t : Tmp) {tt : Ty} {l : List tt.den} (ht : S.tm[t]? = some (.sl tt l)) (h : l.length ≤ 9223372036854775807 → W P c Q S) : W P c Q S := by
  refine ⟨fun w0 a w val hR => ?_⟩
  obtain ⟨u, _, hu⟩ := hR.getTmp ht
  have hu' : Rep _ w (.sl tt) l [u] := hu
  unfold Rep at hu'
  obtain ⟨_, _, _, _, h3, _⟩ := hu'
  exact (h (by unfold maxLen at h3; omega)).out w0 a w val hR
theorem W.skip (h : Q .normal S) : W P .skip Q S := ⟨AWp.skip h⟩
theorem W.exit {id : Nat} (h : Q (.exit id) S) : W P (.exit id) Q S := ⟨AWp.exit h⟩
theorem W.ret (h : Q .ret S) : W P .ret Q S := ⟨AWp.ret h⟩
theorem W.label {l : Nat} (h : Q .normal S) : W P (.label l) Q S := ⟨AWp.label h⟩
theorem W.seq {x y : Code} (h : ∀ K : AS → Prop, (∀ S', W P y Q S' → K S') → W P x (AX.seqd K Q) S) : W P (.seq x y) Q S := ⟨AWp.seq fun K hK => (h K fun S' h' => hK S' h'.out).out⟩
theorem W.cond {c : Operand} {x y : Code} (t : Bool) (hc : S.ev c = .bool t) (h1 : t = true → W P x Q S) (h2 : t = false → W P y Q S) : W P (.cond c x y) Q S := by
  cases t
  · exact ⟨AWp.cond_f hc (h2 rfl).out⟩
  · exact ⟨AWp.cond_t hc (h1 rfl).out⟩
theorem W.cond_t {c : Operand} {x y : Code} (hc : S.ev c = .bool true) (h : W P x Q S) : W P (.cond c x y) Q S := ⟨AWp.cond_t hc h.out⟩
theorem W.cond_f {c : Operand} {x y : Code} (hc : S.ev c = .bool false) (h : W P y Q S) : W P (.cond c x y) Q S := ⟨AWp.cond_f hc h.out⟩
theorem W.block {id : Nat} {c : Code} (h : W P c (AX.blk id Q) S) : W P (.block id c) Q S := ⟨AWp.block h.out⟩
theorem W.region {id : Nat} {l : List Oper} (h : Seqs P l (Q .normal) l S) : W P (.region id l.toArray false) Q S := ⟨AWp.region h.out⟩
theorem W.any {id : Nat} {l : List Oper} (hm : P.follows .mixedOrders = true) (hB : anyB l.toArray = true) (h : Quis P l (Q .normal) l S) : W P (.region id l.toArray true) Q S := ⟨AWp.any hm hB h.out⟩
theorem W.tail {id : Nat} {l : List Oper} (n : Nat) (hm : P.follows .mixedOrders = true) (hB : tailB l.toArray n = true) (h : Quis P l (Seqs P l (Q .normal) (l.drop n)) (l.take n) S) : W P (.region id l.toArray true) Q S := by
  refine ⟨AWp.tail n hm hB ?_⟩
  have mono : ∀ {Q1 Q2 : AS → Prop} (hq : ∀ S, Q1 S → Q2 S) (r : List Oper) (S : AS), aqui P l Q1 r S → aqui P l Q2 r S := by
    intro Q1 Q2 hq r
    induction r with
    | nil => exact fun S h => hq S h
    | cons o r ih =>
      intro S h
      unfold aqui at h ⊢
      cases hg : gd S l o with
      | none => rw [hg] at h; exact h
      | some b =>
        rw [hg] at h
        cases b
        · exact ih _ h
        · obtain ⟨v, h1, h2⟩ := h; exact ⟨v, h1, ih _ h2⟩
  exact mono (fun S h => h.out) _ _ h.out
theorem W.weak {c : Code} {S' : AS} (σ : List Nat) (hw : Weak σ S S') (h : W P c Q S') : W P c Q S := ⟨AWp.weak σ hw h.out⟩
theorem W.loop {c : Code} {X : Type} (st : X → AS) (m : X → Nat) (x0 : X) (σ : List Nat) (hw : Weak σ S (st x0))
    (round : ∀ x, W P c (AX.seqd (fun S' => ∃ y σ, m y < m x ∧ Weak σ S' (st y)) Q) (st x)) : W P (.loop c) Q S := ⟨AWp.loop st m x0 σ hw fun x => (round x).out⟩
theorem W.fn1 {f : FuncId} {fn : Func} {c : Code} {args : List AV} {t : Tmp} {r : Res} (hf : P.funcs[f]? = some fn) (hb : fn.body = some c) (hname : (fn.name != "runtime.NumGoroutine") = true) (hnt : args.length ≤ fn.ntmps) (hres : fn.results = #[.tmp t])
    (h : W P c (fun e S => (e = .normal ∨ e = .ret) ∧ resV S (S.tm.getD t .undef) r) ⟨args ++ List.replicate (fn.ntmps - args.length) .undef, []⟩) : Spec P f args [r] := Spec.of1 hf hb hname hnt hres h.out
theorem W.fn2 {f : FuncId} {fn : Func} {c : Code} {args : List AV} {t u : Tmp} {r1 r2 : Res} (hf : P.funcs[f]? = some fn) (hb : fn.body = some c) (hname : (fn.name != "runtime.NumGoroutine") = true) (hnt : args.length ≤ fn.ntmps)
    (hres : fn.results = #[.tmp t, .tmp u])
    (h : W P c (fun e S => (e = .normal ∨ e = .ret) ∧ resV S (S.tm.getD t .undef) r1 ∧ resV S (S.tm.getD u .undef) r2 ∧ (∀ n, S.tm.getD t .undef = .ref n → S.tm.getD u .undef ≠ .ref n)) ⟨args ++ List.replicate (fn.ntmps - args.length) .undef, []⟩) :
    Spec P f args [r1, r2] := Spec.of2 hf hb hname hnt hres h.out
end
theorem wrap_id (x : Int) (h1 : -9223372036854775808 ≤ x) (h2 : x ≤ 9223372036854775807) : IntKind.i64.wrap x = x := by
  rw [IntKind.wrap_i64]; omega
end Go.Proofs.Ythogfineaeklpaa.Abs
/- A variable that is written no more. -/
namespace Go.Proofs.Ythogfineaeklpaa.Abs
open Go.RowKit
set_option linter.unusedVariables false

def AV.ice (n : Nat) (t : Ty) (d : t.den) : AV → AV
  | .ptr m i => if m = n then (if i = 0 then .iptr t d else .junk) else .ptr m i
  | x => x
def AV.icy (n : Nat) : AV → Bool
  | .ptr m _ => m != n
  | _ => true
def AS.freeze (S : AS) (n : Nat) (t : Ty) (d : t.den) : AS := ⟨S.tm.map (AV.ice n t d), S.H.set n none⟩
section
variable {P : Program} {w0 w : World} {S : AS} {a : Act} {val : Nat → Value}
theorem Rl.freeze (hR : Rl w0 S a w val) {n : Nat} {e : TypeId} {cs : List AV} {t : Ty} {d : t.den} (hH : S.H[n]? = some (some (.box e cs))) (hp : pack t cs = some (d, [])) : Rl w0 (S.freeze n t d) a w val := by
  have hk : ∀ b, okB S.H val b → okB (S.H.set n none) val b := fun b hb m C hC hg => by
    rcases get_set hC with ⟨_, h⟩ | ⟨_, h⟩
    · cases h
    · exact hb m C h hg
  have K : Keep (okB S.H val) (okB (S.H.set n none) val) w w S.H.length (S.H.set n none).length val val := ⟨Nat.le_refl _, fun b hb _ => ⟨hk b hb, rfl⟩, by simp, fun _ _ => rfl⟩
  obtain ⟨g, cur, h1, h2, h3, h4, h5⟩ := hR.heap n _ hH
  have hrep : Rep (okB (S.H.set n none) val) w t d cur.toList := by
    refine (pack_all (ok := okB S.H val) (N := S.H.length) (val := val) hp (by simpa using h4.symm) fun i c hc => ?_).weak hk
    obtain ⟨u, hu, _, hv⟩ := h5 i c hc
    exact ⟨u, by simpa using hu, hv⟩
  have hg : okB (S.H.set n none) val g := fun m C hC hgm => by
    rcases get_set hC with ⟨_, h⟩ | ⟨hne, h⟩
    · cases h
    · exact hne (hR.apart m n C _ g h hH hgm (by rw [h1]; rfl))
  have hP : PRel (okB (S.H.set n none) val) w t d (.pointer (some ⟨g, 0, none⟩)) := ⟨g, 0, cur.toList, rfl, hg, (Array.getElem?_eq_some_iff.1 h3).1, hrep, fun j u hu => by
    simp only [World.cell?, h3]
    simpa using hu⟩
  refine ⟨hR.below, by simp [AS.freeze, hR.len], hR.defers, fun u => ?_, fun m C hC => ?_, fun m k C D q hC hD => ?_⟩
  · have hu := hR.tmps u
    rw [List.getD_eq_getElem?_getD] at hu ⊢
    simp only [AS.freeze, List.getElem?_map]
    cases hx : S.tm[u]? with
    | none => rw [hx] at hu; exact hu
    | some x =>
      rw [hx] at hu
      simp only [Option.map_some, Option.getD_some] at hu ⊢
      cases x with
      | ptr m i =>
        unfold AV.ice
        by_cases hm : m = n
        · subst hm
          by_cases hi : i = 0
          · subst hi
            simp only [if_true]
            obtain ⟨_, g', k1, k2⟩ := hu
            rw [h1] at k1
            cases k1
            rw [k2]
            exact hP
          · simp only [if_true, if_neg hi]; trivial
        · simp only [if_neg hm]
          exact hu.keep K
      | int x => exact hu
      | bool x => exact hu
      | str x => exact hu
      | u8 x => exact hu
      | u64 x => exact hu
      | sl t l => exact hu.keep K
      | agg t x => exact hu.keep K
      | ref m => exact hu.keep K
      | eptr m i k => exact hu.keep K
      | iptr t x => exact hu.keep K
      | tup l => exact hu.keep K
      | fn f c => exact hu.keep K
      | ifn f c => exact hu.keep K
      | fn2 g f c => exact hu.keep K
      | nilsl => exact hu
      | undef => exact hu
      | junk => trivial
  · rcases get_set hC with ⟨_, h⟩ | ⟨_, h⟩
    · cases h
    · exact (hR.heap m C h).keep K (lt_of_some h) fun g _ => rfl
  · have f : ∀ {x : Nat} {X : Blk}, (S.H.set n none)[x]? = some (some X) → S.H[x]? = some (some X) := fun {x X} hX => by
      rcases get_set hX with ⟨_, h⟩ | ⟨_, h⟩
      · cases h
      · exact h
    exact hR.apart m k C D q (f hC) (f hD)
theorem W.freeze {c : Code} {Q : AX → AS → Prop} (n : Nat) {e : TypeId} {cs : List AV} {t : Ty} {d : t.den} (hH : S.H[n]? = some (some (.box e cs))) (hp : pack t cs = some (d, [])) (h : W P c Q (S.freeze n t d)) : W P c Q S :=
  ⟨fun w0 a w val hR => h.out w0 a w val (hR.freeze hH hp)⟩
theorem slice_q {o : Oper} {xt e : TypeId} {x : Operand} {tt t : Ty} {d : tt.den} {len sz : Nat} {l : List t.den} (hop : o.op = .slice xt x none none none) (hx : S.ev x = .iptr tt d) (har : arElem P xt = some (len, e)) (hsz : szOf P e = some sz)
    (hl : arrL tt d len sz t = some l) (hn : t.n = sz) (hlen : l.length = len) (hle : len ≤ 16777216) : qval P S o (.sl t l) := by
  unfold qval
  rw [hop]
  simp only [hx]
  exact ⟨trivial, trivial, len, e, sz, har, hsz, t, l, hl, hn, hlen, hle, rfl⟩
theorem aqui_v {ops r : List Oper} {o : Oper} {Q : AS → Prop} {v : AV} (hv : qval P S o v) (hg : gd S ops o = some true) (h : ∀ K : AS → Prop, (∀ S', Quis P ops Q r S' → K S') → K (S.put o.dst v)) : Quis P ops Q (o :: r) S := by
  constructor
  unfold aqui
  rw [hg]
  exact ⟨_, .inl hv, h _ fun _ h => h.out⟩
end
end Go.Proofs.Ythogfineaeklpaa.Abs
/- What a law's arguments are: whatever reads as data reads as a value of a Lean type. -/
namespace Go.Proofs.Ythogfineaeklpaa.Abs
open Go.RowKit
set_option linter.unusedVariables false

/-- A type of the program is laid as this one. -/
def isTy (P : Program) : Ty → TypeId → Prop
  | .int, t => P.underlying t = some (.int .i64)
  | .bool, t => P.underlying t = some .bool
  | .str, t => P.underlying t = some .string
  | .u64, _ => False
  | .ar _ _, _ => False
  | .sl a, t => ∃ e, P.underlying t = some (.slice e) ∧ P.cellsOf e = a.n ∧ isTy P a e
  | .pr a b, t => (∃ e, P.underlying t = some (.array 2 e) ∧ P.cellsOf e = a.n ∧ P.cellsOf e = b.n ∧ isTy P a e ∧ isTy P b e) ∨
      (∃ f0 f1, P.underlying t = some (.struct #[f0, f1]) ∧ f0.offset = 0 ∧ f1.offset = a.n ∧ P.cellsOf f0.type = a.n ∧ P.cellsOf f1.type = b.n ∧ isTy P a f0.type ∧ isTy P b f1.type)
theorem choose_list {α : Type} {p : Nat → α → Prop} : ∀ (n : Nat), (∀ i, i < n → ∃ y, p i y) → ∃ l : List α, l.length = n ∧ ∀ (i : Nat) (y : α), l[i]? = some y → p i y
  | 0, _ => ⟨[], rfl, fun i y hy => by simp at hy⟩
  | n + 1, h => by
    obtain ⟨l, h1, h2⟩ := choose_list n fun i hi => h i (by omega)
    obtain ⟨y, hy⟩ := h n (by omega)
    refine ⟨l ++ [y], by simp [h1], fun i z hz => ?_⟩
    by_cases hi : i < l.length
    · rw [List.getElem?_append_left hi] at hz; exact h2 i z hz
    · rw [List.getElem?_append_right (by omega)] at hz
      have h0 : i - l.length = 0 := by
        rcases Nat.eq_zero_or_pos (i - l.length) with h' | h'
        · exact h'
        · rw [List.getElem?_eq_none (by simp; omega)] at hz; cases hz
      rw [h0] at hz
      simp at hz
      subst hz
      rw [show i = n by omega]
      exact hy
theorem mapM_idx {α β : Type} {f : α → Option β} : ∀ {xs : List α} {ys : List β}, xs.mapM f = some ys → ∀ (i : Nat) (x : α), xs[i]? = some x → ∃ y, ys[i]? = some y ∧ f x = some y
  | [], ys, h, i, x, hx => by simp at hx
  | z :: xs, ys, h, i, x, hx => by
    simp only [List.mapM_cons, Option.bind_eq_bind, Option.bind_eq_some_iff] at h
    obtain ⟨y, hy, ys', hys, h⟩ := h
    cases h
    cases i with
    | zero => simp at hx; subst hx; exact ⟨y, rfl, hy⟩
    | succ i => simpa using mapM_idx hys i x (by simpa using hx)
section
variable {H : Type} {enc : TypeId × Value → H} {P : Program} {w : World} {base : Nat} {spare : Nat → Bool} {held : Bool}
theorem open_rep : ∀ {tt : Ty} {fuel : Nat} {t : TypeId} {cs : List Value} {x : DataW H × List MemPlace}, isTy P tt t → DataW.trod enc P w base spare held fuel t cs = some x → P.cellsOf t = tt.n → cs.length = tt.n →
    ∃ y, Rep (fun _ => True) w tt y cs
  | _, 0, _, _, _, _, h, _, _ => by unfold DataW.trod at h; cases h
  | .int, fuel + 1, t, cs, x, ht, h, _, hl => by
    unfold isTy at ht
    match cs, hl with
    | [c], _ =>
      unfold DataW.trod at h
      rw [ht] at h
      cases c <;> simp at h
      rename_i k n _
      obtain ⟨⟨rfl, _⟩, _⟩ := h
      exact ⟨n, by unfold Rep; rfl⟩
  | .bool, fuel + 1, t, cs, x, ht, h, _, hl => by
    unfold isTy at ht
    match cs, hl with
    | [c], _ =>
      unfold DataW.trod at h
      rw [ht] at h
      cases c <;> simp at h
      rename_i b _
      exact ⟨b, by unfold Rep; rfl⟩
  | .ar k a, fuel + 1, t, cs, x, ht, h, _, hl => by unfold isTy at ht; exact ht.elim
  | .u64, fuel + 1, t, cs, x, ht, h, _, hl => by unfold isTy at ht; exact ht.elim
  | .str, fuel + 1, t, cs, x, ht, h, _, hl => by
    unfold isTy at ht
    match cs, hl with
    | [c], _ =>
      unfold DataW.trod at h
      rw [ht] at h
      cases c <;> simp at h
      rename_i s _
      exact ⟨s, by unfold Rep; rfl⟩
  | .sl a, fuel + 1, t, cs, x, ht, h, _, hl => by
    unfold isTy at ht
    obtain ⟨e, ht, hc, he⟩ := ht
    match cs, hl with
    | [c], _ =>
      unfold DataW.trod at h
      rw [ht] at h
      cases c <;> simp only [reduceCtorEq] at h
      rename_i ad len cap _
      cases ad with
      | none =>
        have h0 : len = 0 ∧ cap = 0 := by
          cases len <;> cases cap <;> simp at h <;> exact ⟨rfl, rfl⟩
        obtain ⟨rfl, rfl⟩ := h0
        refine ⟨[], ?_⟩
        unfold Rep
        exact ⟨none, 0, rfl, Nat.le_refl _, by simp [maxLen], .inl rfl⟩
      | some ad =>
        simp only at h
        split at h
        · rename_i hb
          simp only [Option.bind_eq_some_iff] at h
          obtain ⟨elems, hel, _⟩ := h
          have each : ∀ i, i < len → ∃ y : a.den × List Value, Rep (fun _ => True) w a y.1 y.2 ∧ w.cells? base (ad.add (i * P.cellsOf e)) (P.cellsOf e) = some y.2 := fun i hi => by
            obtain ⟨z, _, hz⟩ := mapM_idx hel i i (by simp [hi])
            simp only [Option.bind_eq_some_iff] at hz
            obtain ⟨cs', h1, h2⟩ := hz
            obtain ⟨y, hy⟩ := open_rep he h2 hc (by rw [← hc]; exact (World.cells?_some h1).2.1)
            exact ⟨(y, cs'), hy, h1⟩
          obtain ⟨L, hL, hLp⟩ := choose_list len each
          refine ⟨L.map (·.1), ?_⟩
          unfold Rep
          refine ⟨some ad, cap, by simp [hL], by simp [hL]; exact hb.2.1, by simp [hL]; exact Nat.le_trans hb.2.1 hb.2.2, ?_⟩
          by_cases hne : L = []
          · left; rw [hne]; rfl
          · right
            have hp := a.n_pos
            have hLpos : 0 < L.length := List.length_pos_iff.2 hne
            have hspot : ad.spot = none := by
              obtain ⟨k1, k2⟩ := hLp 0 _ (List.getElem?_eq_getElem hLpos)
              have k3 := (World.cells?_some k2).2.2 0 (by omega)
              rw [Nat.zero_mul] at k3
              have k4 : w.cell? ad = (L[0]).2[0]? := by simpa [Addr.add] using k3
              have k5 : (L[0]).2[0]? ≠ none := by
                rw [List.getElem?_eq_getElem (by have := k1.length; omega)]; simp
              rw [← k4] at k5
              unfold World.cell? at k5
              cases hsp : ad.spot with
              | none => rfl
              | some s =>
                rw [hsp] at k5
                exfalso; apply k5
                split <;> simp
            have hRL := flat_repl (w := w) (ok := fun _ => True) (t := a) (l := L.map (·.1)) (vs := L.map (·.2)) (by simp) (fun i y hy => by
              rw [List.getElem?_map] at hy ⊢
              cases hc : L[i]? with
              | none => rw [hc] at hy; cases hy
              | some z => rw [hc] at hy; cases hy; exact ⟨_, rfl, (hLp i z hc).1⟩)
            have hcells : ∀ (i : Nat) (z : a.den × List Value), L[i]? = some z → ∀ j u, z.2[j]? = some u → w.cell? ⟨ad.block, ad.off + i * a.n + j, none⟩ = some u := fun i z hz j u hu => by
              obtain ⟨k1, k2⟩ := hLp i z hz
              have hj : j < P.cellsOf e := by rw [hc, ← k1.length]; exact (List.getElem?_eq_some_iff.1 hu).1
              have k3 := (World.cells?_some k2).2.2 j hj
              rw [hu, hc] at k3
              have e1 : ad = ⟨ad.block, ad.off, none⟩ := by cases ad; simp at hspot; subst hspot; rfl
              rw [e1, Addr.add_lit, Addr.add_lit] at k3
              exact k3
            have hblk : ad.block < w.heap.size := by
              obtain ⟨k1, k2⟩ := hLp 0 _ (List.getElem?_eq_getElem hLpos)
              have := World.cells?_block k2 (by rw [hc]; exact hp)
              rw [Nat.zero_mul] at this
              simpa [Addr.add] using this
            refine ⟨ad.block, ad.off, (L.map (·.2)).flatten, ?_, trivial, hblk, by rw [hRL.1], fun j v hj => ?_, hRL.2⟩
            · cases ad; simp at hspot; subst hspot; rfl
            · have hlt : j < L.length * a.n := by
                have := (List.getElem?_eq_some_iff.1 hj).1
                rw [hRL.1] at this
                simpa using this
              have hq : j / a.n < L.length := by rw [Nat.div_lt_iff_lt_mul hp]; exact hlt
              have hrep := hRL.2 (j / a.n) (L[j / a.n]).1 (by simp [hq])
              have hz : L[j / a.n]? = some L[j / a.n] := List.getElem?_eq_getElem hq
              have hpick : ∀ (vs : List (List Value)) (n q : Nat), (∀ (i : Nat) (c : List Value), vs[i]? = some c → c.length = n) → q < vs.length → ((vs.flatten).drop (q * n)).take n = vs.getD q [] := by
                intro vs
                induction vs with
                | nil => intro n q _ hq; simp at hq
                | cons c vs ih =>
                  intro n q hlen hq
                  have hcn := hlen 0 c rfl
                  cases q with
                  | zero => simp only [Nat.zero_mul, List.drop_zero, List.flatten_cons]; rw [List.take_append_of_le_length (by omega), List.take_of_length_le (by omega)]; rfl
                  | succ q =>
                    rw [List.flatten_cons, show (q + 1) * n = c.length + q * n by rw [Nat.add_mul, hcn]; omega, List.drop_append, List.drop_eq_nil_of_le (by omega : c.length ≤ c.length + q * n), List.nil_append, Nat.add_sub_cancel_left]
                    rw [ih n q (fun i c hc => hlen (i + 1) c (by simpa using hc)) (by simpa using hq)]
                    rfl
              have hpk := hpick (L.map (·.2)) a.n (j / a.n) (fun i c hc => by
                rw [List.getElem?_map] at hc
                cases hci : L[i]? with
                | none => rw [hci] at hc; cases hc
                | some z => rw [hci] at hc; cases hc; exact (hLp i z hci).1.length) (by simpa using hq)
              have hjv : (L[j / a.n]).2[j % a.n]? = some v := by
                have e2 : (L.map (·.2)).getD (j / a.n) [] = (L[j / a.n]).2 := by simp [hq]
                rw [← e2, ← hpk, List.getElem?_take, if_pos (Nat.mod_lt _ hp), List.getElem?_drop, show j / a.n * a.n + j % a.n = j by rw [Nat.mul_comm]; exact Nat.div_add_mod j a.n]
                exact hj
              have := hcells _ _ hz _ _ hjv
              rw [Nat.add_assoc, show j / a.n * a.n + j % a.n = j by rw [Nat.mul_comm]; exact Nat.div_add_mod j a.n] at this
              exact this
        · cases h
  | .pr a b, fuel + 1, t, cs, x, ht, h, hct, hl => by
    have fin : ∀ {xa xb : DataW H × List MemPlace} {ta tb : TypeId}, isTy P a ta → isTy P b tb → P.cellsOf ta = a.n → P.cellsOf tb = b.n →
        DataW.trod enc P w base spare held fuel ta (cs.take a.n) = some xa → DataW.trod enc P w base spare held fuel tb ((cs.drop a.n).take b.n) = some xb → ∃ y, Rep (fun _ => True) w (.pr a b) y cs := by
      intro xa xb ta tb ia ib ca cb ha hb
      have hl' : cs.length = a.n + b.n := hl
      obtain ⟨y1, h1⟩ := open_rep ia ha ca (by rw [List.length_take]; omega)
      obtain ⟨y2, h2⟩ := open_rep ib hb cb (by rw [List.length_take, List.length_drop]; omega)
      refine ⟨(y1, y2), ?_⟩
      unfold Rep
      refine ⟨cs.take a.n, cs.drop a.n, (List.take_append_drop _ _).symm, h1, ?_⟩
      rw [List.take_of_length_le (by rw [List.length_drop]; omega)] at h2
      exact h2
    unfold isTy at ht
    unfold DataW.trod at h
    rcases ht with ⟨e, hu, c1, c2, i1, i2⟩ | ⟨f0, f1, hu, o0, o1, c1, c2, i1, i2⟩
    · rw [hu] at h
      have h' : (if cs.length = P.cellsOf t then ((List.range 2).mapM fun i => DataW.trod enc P w base spare held fuel e ((cs.drop (i * P.cellsOf e)).take (P.cellsOf e))).map fun xs => (.agg (xs.map (·.1)), xs.flatMap (·.2)) else none) = some x := by
        rcases cs with _ | ⟨c, _ | ⟨c', r⟩⟩ <;> simpa using h
      rw [if_pos (by rw [hl, hct]), Option.map_eq_some_iff] at h'
      obtain ⟨xs, hxs, _⟩ := h'
      obtain ⟨xa, _, ha⟩ := mapM_idx hxs 0 0 rfl
      obtain ⟨xb, _, hb⟩ := mapM_idx hxs 1 1 rfl
      rw [Nat.zero_mul, List.drop_zero, c1] at ha
      rw [Nat.one_mul] at hb
      exact fin i1 i2 c1 c2 ha (by rw [c2] at hb; rw [← c1, c2]; exact hb)
    · rw [hu] at h
      have h' : (if cs.length = P.cellsOf t then ([f0, f1].mapM fun f => DataW.trod enc P w base spare held fuel f.type ((cs.drop f.offset).take (P.cellsOf f.type))).map fun xs => (.agg (xs.map (·.1)), xs.flatMap (·.2)) else none) = some x := by
        rcases cs with _ | ⟨c, _ | ⟨c', r⟩⟩ <;> simpa using h
      rw [if_pos (by rw [hl, hct]), Option.map_eq_some_iff] at h'
      obtain ⟨xs, hxs, _⟩ := h'
      obtain ⟨xa, _, ha⟩ := mapM_idx hxs 0 f0 rfl
      obtain ⟨xb, _, hb⟩ := mapM_idx hxs 1 f1 rfl
      rw [o0, List.drop_zero, c1] at ha
      rw [o1, c2] at hb
      exact fin i1 i2 c1 c2 ha hb
end
end Go.Proofs.Ythogfineaeklpaa.Abs
/- Calls of closures. -/
namespace Go.Proofs.Ythogfineaeklpaa.Abs
open Go.RowKit
set_option linter.unusedVariables false
section
variable {P : Program} {Q : AS → Prop} {S : AS} {ops r : List Oper} {o : Oper}
theorem call_qq {c : Call} {fo : Operand} {f : FuncId} {cap : List TV} {args : List AV} {res : List Res} (hop : o.op = .call c) (hc : c.callee = .value fo) (hf : S.ev fo = .fn f cap) (hs : Spec P f (args ++ cap.map fun c => .iptr c.1 c.2) res)
    (ha : argsOk S (c.args.toList.map S.ev) args) : qcall P S o (resAV res) := by
  unfold qcall
  rw [hop]
  simp only [hc, hf]
  exact ⟨args, res, ha, hs, rfl⟩
theorem aqui_cc {c : Call} {fo : Operand} {f : FuncId} {cap : List TV} {args : List AV} {res : List Res} (hs : Spec P f (args ++ cap.map fun c => .iptr c.1 c.2) res) (hg : gd S ops o = some true) (hop : o.op = .call c) (hc : c.callee = .value fo) (hf : S.ev fo = .fn f cap)
    (ha : argsOk S (c.args.toList.map S.ev) args) (h : ∀ K : AS → Prop, (∀ S', Quis P ops Q r S' → K S') → K (S.put o.dst (resAV res))) : Quis P ops Q (o :: r) S := by
  constructor
  unfold aqui
  rw [hg]
  exact ⟨_, .inr (call_qq hop hc hf hs ha), h _ fun _ h => h.out⟩
theorem aseq_cc {c : Call} {fo : Operand} {f : FuncId} {cap : List TV} {args : List AV} {res : List Res} (hs : Spec P f (args ++ cap.map fun c => .iptr c.1 c.2) res) (hg : gd S ops o = some true) (hop : o.op = .call c) (hc : c.callee = .value fo) (hf : S.ev fo = .fn f cap)
    (ha : argsOk S (c.args.toList.map S.ev) args) (h : ∀ K : AS → Prop, (∀ S', Seqs P ops Q r S' → K S') → K (S.put o.dst (resAV res))) : Seqs P ops Q (o :: r) S := by
  constructor
  unfold aseq
  rw [hg]
  simp only
  unfold sstep
  rw [hop]
  simp only [hc]
  exact .inl ⟨_, call_qq hop hc hf hs ha, h _ fun _ h => h.out⟩
theorem aseq_v {src dst : TypeId} {x : Operand} {v : AV} (hop : o.op = .convert src dst x) (hv : qval P S o v) (hg : gd S ops o = some true) (h : ∀ K : AS → Prop, (∀ S', Seqs P ops Q r S' → K S') → K (S.put o.dst v)) : Seqs P ops Q (o :: r) S := by
  constructor
  unfold aseq
  rw [hg]
  simp only
  unfold sstep
  rw [hop]
  exact ⟨_, hv, h _ fun _ h => h.out⟩
theorem to_u64 {src dst : TypeId} {x : Operand} {k : Int} (hop : o.op = .convert src dst x) (hs : P.underlying src = some (.int .i64)) (hd : P.underlying dst = some (.int .u64)) (hx : S.ev x = .int k) (h0 : 0 ≤ k) (h1 : k ≤ 9223372036854775807) : qval P S o (.u64 k) := by
  unfold qval
  rw [hop]
  simp only [hx]
  refine ⟨⟨_, hs⟩, .inr ⟨hd, ?_⟩⟩
  have e : IntKind.u64.wrap k = k := by
    have h2 : (2 : Int) ^ IntKind.u64.bits = 18446744073709551616 := by decide
    have h3 : (2 : Int) ^ (IntKind.u64.bits - 1) = 9223372036854775808 := by decide
    simp [IntKind.wrap, h2, h3, IntKind.signed]
    omega
  rw [e]
theorem of_u64 {src dst : TypeId} {x : Operand} {k : Int} (hop : o.op = .convert src dst x) (hs : P.underlying src = some (.int .u64)) (hd : P.underlying dst = some (.int .i64)) (hx : S.ev x = .u64 k) (h0 : 0 ≤ k) (h1 : k ≤ 9223372036854775807) : qval P S o (.int k) := by
  unfold qval
  rw [hop]
  simp only [hx]
  exact ⟨⟨_, hs⟩, hd, by rw [wrap_id k (by omega) h1]⟩
end
end Go.Proofs.Ythogfineaeklpaa.Abs
/- A variable that holds a function and is written no more; calls of closures over it. -/
namespace Go.Proofs.Ythogfineaeklpaa.Abs
open Go.RowKit
set_option linter.unusedVariables false
def AV.iceF (n : Nat) (f : FuncId) (cap : List TV) : AV → AV
  | .ptr m i => if m = n then (if i = 0 then .ifn f cap else .junk) else .ptr m i
  | x => x
def AS.freezeF (S : AS) (n : Nat) (f : FuncId) (cap : List TV) : AS := ⟨S.tm.map (AV.iceF n f cap), S.H.set n none⟩
section
variable {P : Program} {w0 w : World} {S : AS} {a : Act} {val : Nat → Value}
theorem Rl.freezeF (hR : Rl w0 S a w val) {n : Nat} {e : TypeId} {f : FuncId} {cap : List TV} (hH : S.H[n]? = some (some (.box e [.fn f cap]))) : Rl w0 (S.freezeF n f cap) a w val := by
  have hk : ∀ b, okB S.H val b → okB (S.H.set n none) val b := fun b hb m C hC hg => by
    rcases get_set hC with ⟨_, h⟩ | ⟨_, h⟩
    · cases h
    · exact hb m C h hg
  have K : Keep (okB S.H val) (okB (S.H.set n none) val) w w S.H.length (S.H.set n none).length val val := ⟨Nat.le_refl _, fun b hb _ => ⟨hk b hb, rfl⟩, by simp, fun _ _ => rfl⟩
  obtain ⟨g, cur, h1, h2, h3, h4, h5⟩ := hR.heap n _ hH
  have hg : okB (S.H.set n none) val g := fun m C hC hgm => by
    rcases get_set hC with ⟨_, h⟩ | ⟨hne, h⟩
    · cases h
    · exact hne (hR.apart m n C _ g h hH hgm (by rw [h1]; rfl))
  have hP : IFRel (okB (S.H.set n none) val) w f cap (.pointer (some ⟨g, 0, none⟩)) := by
    obtain ⟨u, hu, _, hv⟩ := h5 0 (.fn f cap) rfl
    have hv' : VRel (okB (S.H.set n none) val) w (S.H.set n none).length val (.fn f cap) u := hv.keep K
    obtain ⟨vs, e1, e2, e3⟩ := hv'
    exact ⟨g, u, rfl, hg, (Array.getElem?_eq_some_iff.1 h3).1, by simp [World.cell?, h3, hu], vs, e1, e2, e3⟩
  refine ⟨hR.below, by simp [AS.freezeF, hR.len], hR.defers, fun u => ?_, fun m C hC => ?_, fun m k C D q hC hD => ?_⟩
  · have hu := hR.tmps u
    rw [List.getD_eq_getElem?_getD] at hu ⊢
    simp only [AS.freezeF, List.getElem?_map]
    cases hx : S.tm[u]? with
    | none => rw [hx] at hu; exact hu
    | some x =>
      rw [hx] at hu
      simp only [Option.map_some, Option.getD_some] at hu ⊢
      cases x with
      | ptr m i =>
        unfold AV.iceF
        by_cases hm : m = n
        · subst hm
          by_cases hi : i = 0
          · subst hi
            simp only [if_true]
            obtain ⟨_, g', k1, k2⟩ := hu
            rw [h1] at k1
            cases k1
            rw [k2]
            exact hP
          · simp only [if_true, if_neg hi]; trivial
        · simp only [if_neg hm]
          exact hu.keep K
      | int x => exact hu
      | bool x => exact hu
      | str x => exact hu
      | u8 x => exact hu
      | u64 x => exact hu
      | sl t l => exact hu.keep K
      | agg t x => exact hu.keep K
      | ref m => exact hu.keep K
      | eptr m i k => exact hu.keep K
      | iptr t x => exact hu.keep K
      | tup l => exact hu.keep K
      | fn f c => exact hu.keep K
      | ifn f c => exact hu.keep K
      | fn2 g f c => exact hu.keep K
      | nilsl => exact hu
      | undef => exact hu
      | junk => trivial
  · rcases get_set hC with ⟨_, h⟩ | ⟨_, h⟩
    · cases h
    · exact (hR.heap m C h).keep K (lt_of_some h) fun g _ => rfl
  · have f : ∀ {x : Nat} {X : Blk}, (S.H.set n none)[x]? = some (some X) → S.H[x]? = some (some X) := fun {x X} hX => by
      rcases get_set hX with ⟨_, h⟩ | ⟨_, h⟩
      · cases h
      · exact h
    exact hR.apart m k C D q (f hC) (f hD)
theorem W.freezeF {c : Code} {Q : AX → AS → Prop} (n : Nat) {e : TypeId} {f : FuncId} {cap : List TV} (hH : S.H[n]? = some (some (.box e [.fn f cap]))) (h : W P c Q (S.freezeF n f cap)) : W P c Q S :=
  ⟨fun w0 a w val hR => h.out w0 a w val (hR.freezeF hH)⟩
end
section
variable {P : Program} {Q : AS → Prop} {S : AS} {ops r : List Oper} {o : Oper}
theorem call_q2 {c : Call} {fo : Operand} {g f : FuncId} {cap : List TV} {args : List AV} {res : List Res} (hop : o.op = .call c) (hc : c.callee = .value fo) (hf : S.ev fo = .fn2 g f cap) (hs : Spec P g (args ++ [.ifn f cap]) res)
    (ha : argsOk S (c.args.toList.map S.ev) args) : qcall P S o (resAV res) := by
  unfold qcall
  rw [hop]
  simp only [hc, hf]
  exact ⟨args, res, ha, hs, rfl⟩
theorem aqui_c2 {c : Call} {fo : Operand} {g f : FuncId} {cap : List TV} {args : List AV} {res : List Res} (hs : Spec P g (args ++ [.ifn f cap]) res) (hg : gd S ops o = some true) (hop : o.op = .call c) (hc : c.callee = .value fo) (hf : S.ev fo = .fn2 g f cap)
    (ha : argsOk S (c.args.toList.map S.ev) args) (h : ∀ K : AS → Prop, (∀ S', Quis P ops Q r S' → K S') → K (S.put o.dst (resAV res))) : Quis P ops Q (o :: r) S := by
  constructor
  unfold aqui
  rw [hg]
  exact ⟨_, .inr (call_q2 hop hc hf hs ha), h _ fun _ h => h.out⟩
theorem aseq_c2 {c : Call} {fo : Operand} {g f : FuncId} {cap : List TV} {args : List AV} {res : List Res} (hs : Spec P g (args ++ [.ifn f cap]) res) (hg : gd S ops o = some true) (hop : o.op = .call c) (hc : c.callee = .value fo) (hf : S.ev fo = .fn2 g f cap)
    (ha : argsOk S (c.args.toList.map S.ev) args) (h : ∀ K : AS → Prop, (∀ S', Seqs P ops Q r S' → K S') → K (S.put o.dst (resAV res))) : Seqs P ops Q (o :: r) S := by
  constructor
  unfold aseq
  rw [hg]
  simp only
  unfold sstep
  rw [hop]
  simp only [hc]
  exact .inl ⟨_, call_q2 hop hc hf hs ha, h _ fun _ h => h.out⟩
theorem fn2_q {g f : FuncId} {first caps : Array Operand} {x : Operand} {cap : List TV} (hop : o.op = .makeFunc (.func g) first caps) (h1 : first = #[]) (hc : caps = #[x]) (hx : S.ev x = .ifn f cap) : qval P S o (.fn2 g f cap) := by
  subst h1
  subst hc
  unfold qval
  rw [hop]
  have e : capAV [AV.ifn f cap] = none := rfl
  simp [hx, e]
theorem aseq_m {g : FuncId} {first caps : Array Operand} {v : AV} (hop : o.op = .makeFunc (.func g) first caps) (hv : qval P S o v) (hg : gd S ops o = some true) (h : ∀ K : AS → Prop, (∀ S', Seqs P ops Q r S' → K S') → K (S.put o.dst v)) : Seqs P ops Q (o :: r) S := by
  constructor
  unfold aseq
  rw [hg]
  simp only
  unfold sstep
  rw [hop]
  exact ⟨_, hv, h _ fun _ h => h.out⟩
end
end Go.Proofs.Ythogfineaeklpaa.Abs
/- The table of types, as the rules ask of it. -/
namespace Go.Proofs.Ythogfineaeklpaa.Abs
theorem ty2 : tyOf Try.prog 8 2 = some .int := by kernel_rfl
theorem fit2 : fits Try.prog 2 .int = true := by kernel_rfl
theorem sz2 : szOf Try.prog 2 = some 1 := by kernel_rfl
theorem ek2 : elemOk Try.prog 2 .int := ⟨by kernel_rfl, by kernel_rfl⟩
theorem ag2 : isAggB Try.prog 2 = some false := by kernel_rfl
theorem za2 : zAVs Try.prog 2 = some [.int 0] := by kernel_rfl
theorem un2 : Try.prog.underlying 2 = some (.int .i64) := by kernel_rfl
theorem ty3 : tyOf Try.prog 8 3 = some .int := by kernel_rfl
theorem fit3 : fits Try.prog 3 .int = true := by kernel_rfl
theorem sz3 : szOf Try.prog 3 = some 1 := by kernel_rfl
theorem ek3 : elemOk Try.prog 3 .int := ⟨by kernel_rfl, by kernel_rfl⟩
theorem ag3 : isAggB Try.prog 3 = some false := by kernel_rfl
theorem za3 : zAVs Try.prog 3 = some [.int 0] := by kernel_rfl
theorem un3 : Try.prog.underlying 3 = some (.int .i64) := by kernel_rfl
theorem ty4 : tyOf Try.prog 8 4 = some .bool := by kernel_rfl
theorem fit4 : fits Try.prog 4 .bool = true := by kernel_rfl
theorem sz4 : szOf Try.prog 4 = some 1 := by kernel_rfl
theorem ek4 : elemOk Try.prog 4 .bool := ⟨by kernel_rfl, by kernel_rfl⟩
theorem ag4 : isAggB Try.prog 4 = some false := by kernel_rfl
theorem za4 : zAVs Try.prog 4 = some [.bool false] := by kernel_rfl
theorem un4 : Try.prog.underlying 4 = some .bool := by kernel_rfl
theorem un5 : Try.prog.underlying 5 = some (.int .u8) := by kernel_rfl
theorem un6 : Try.prog.underlying 6 = some (.int .u8) := by kernel_rfl
theorem ty9 : tyOf Try.prog 8 9 = some .str := by kernel_rfl
theorem fit9 : fits Try.prog 9 .str = true := by kernel_rfl
theorem sz9 : szOf Try.prog 9 = some 1 := by kernel_rfl
theorem ek9 : elemOk Try.prog 9 .str := ⟨by kernel_rfl, by kernel_rfl⟩
theorem ag9 : isAggB Try.prog 9 = some false := by kernel_rfl
theorem za9 : zAVs Try.prog 9 = some [.str ByteArray.empty] := by kernel_rfl
theorem un9 : Try.prog.underlying 9 = some .string := by kernel_rfl
theorem ty10 : tyOf Try.prog 8 10 = some .str := by kernel_rfl
theorem fit10 : fits Try.prog 10 .str = true := by kernel_rfl
theorem sz10 : szOf Try.prog 10 = some 1 := by kernel_rfl
theorem ek10 : elemOk Try.prog 10 .str := ⟨by kernel_rfl, by kernel_rfl⟩
theorem ag10 : isAggB Try.prog 10 = some false := by kernel_rfl
theorem za10 : zAVs Try.prog 10 = some [.str ByteArray.empty] := by kernel_rfl
theorem un10 : Try.prog.underlying 10 = some .string := by kernel_rfl
theorem ty11 : tyOf Try.prog 8 11 = some .str := by kernel_rfl
theorem fit11 : fits Try.prog 11 .str = true := by kernel_rfl
theorem sz11 : szOf Try.prog 11 = some 1 := by kernel_rfl
theorem ek11 : elemOk Try.prog 11 .str := ⟨by kernel_rfl, by kernel_rfl⟩
theorem ag11 : isAggB Try.prog 11 = some false := by kernel_rfl
theorem za11 : zAVs Try.prog 11 = some [.str ByteArray.empty] := by kernel_rfl
theorem un11 : Try.prog.underlying 11 = some .string := by kernel_rfl
theorem un12 : Try.prog.underlying 12 = some (.int .u64) := by kernel_rfl
theorem un21 : Try.prog.underlying 21 = some (.int .i32) := by kernel_rfl
theorem ty22 : tyOf Try.prog 8 22 = some (.sl (.pr .int .int)) := by kernel_rfl
theorem fit22 : fits Try.prog 22 (.sl (.pr .int .int)) = true := by kernel_rfl
theorem sz22 : szOf Try.prog 22 = some 1 := by kernel_rfl
theorem ek22 : elemOk Try.prog 22 (.sl (.pr .int .int)) := ⟨by kernel_rfl, by kernel_rfl⟩
theorem ag22 : isAggB Try.prog 22 = some false := by kernel_rfl
theorem za22 : zAVs Try.prog 22 = some [.nilsl] := by kernel_rfl
theorem sl22 : slElem Try.prog 22 = some 70 := by kernel_rfl
theorem ty23 : tyOf Try.prog 8 23 = some (.pr .int (.sl (.pr .int .int))) := by kernel_rfl
theorem fit23 : fits Try.prog 23 (.pr .int (.sl (.pr .int .int))) = true := by kernel_rfl
theorem sz23 : szOf Try.prog 23 = some 2 := by kernel_rfl
theorem ek23 : elemOk Try.prog 23 (.pr .int (.sl (.pr .int .int))) := ⟨by kernel_rfl, by kernel_rfl⟩
theorem ag23 : isAggB Try.prog 23 = some true := by kernel_rfl
theorem za23 : zAVs Try.prog 23 = some [.int 0, .nilsl] := by kernel_rfl
theorem fd23_0 : fieldOf Try.prog 23 0 = some (0, 3) := by kernel_rfl
theorem fd23_1 : fieldOf Try.prog 23 1 = some (1, 22) := by kernel_rfl
theorem ty24 : tyOf Try.prog 8 24 = some (.pr .int (.sl (.pr .int .int))) := by kernel_rfl
theorem fit24 : fits Try.prog 24 (.pr .int (.sl (.pr .int .int))) = true := by kernel_rfl
theorem sz24 : szOf Try.prog 24 = some 2 := by kernel_rfl
theorem ek24 : elemOk Try.prog 24 (.pr .int (.sl (.pr .int .int))) := ⟨by kernel_rfl, by kernel_rfl⟩
theorem ag24 : isAggB Try.prog 24 = some true := by kernel_rfl
theorem za24 : zAVs Try.prog 24 = some [.int 0, .nilsl] := by kernel_rfl
theorem fd24_0 : fieldOf Try.prog 24 0 = some (0, 3) := by kernel_rfl
theorem fd24_1 : fieldOf Try.prog 24 1 = some (1, 22) := by kernel_rfl
theorem ty25 : tyOf Try.prog 8 25 = some (.sl .int) := by kernel_rfl
theorem fit25 : fits Try.prog 25 (.sl .int) = true := by kernel_rfl
theorem sz25 : szOf Try.prog 25 = some 1 := by kernel_rfl
theorem ek25 : elemOk Try.prog 25 (.sl .int) := ⟨by kernel_rfl, by kernel_rfl⟩
theorem ag25 : isAggB Try.prog 25 = some false := by kernel_rfl
theorem za25 : zAVs Try.prog 25 = some [.nilsl] := by kernel_rfl
theorem sl25 : slElem Try.prog 25 = some 3 := by kernel_rfl
theorem ty29 : tyOf Try.prog 8 29 = some (.pr .int (.sl (.pr .int .int))) := by kernel_rfl
theorem fit29 : fits Try.prog 29 (.pr .int (.sl (.pr .int .int))) = true := by kernel_rfl
theorem sz29 : szOf Try.prog 29 = some 2 := by kernel_rfl
theorem ek29 : elemOk Try.prog 29 (.pr .int (.sl (.pr .int .int))) := ⟨by kernel_rfl, by kernel_rfl⟩
theorem ag29 : isAggB Try.prog 29 = some true := by kernel_rfl
theorem za29 : zAVs Try.prog 29 = some [.int 0, .nilsl] := by kernel_rfl
theorem fd29_0 : fieldOf Try.prog 29 0 = some (0, 3) := by kernel_rfl
theorem fd29_1 : fieldOf Try.prog 29 1 = some (1, 22) := by kernel_rfl
theorem un62 : Try.prog.underlying 62 = some (.int .u64) := by kernel_rfl
theorem un63 : Try.prog.underlying 63 = some (.int .u64) := by kernel_rfl
theorem ty70 : tyOf Try.prog 8 70 = some (.pr .int .int) := by kernel_rfl
theorem fit70 : fits Try.prog 70 (.pr .int .int) = true := by kernel_rfl
theorem sz70 : szOf Try.prog 70 = some 2 := by kernel_rfl
theorem ek70 : elemOk Try.prog 70 (.pr .int .int) := ⟨by kernel_rfl, by kernel_rfl⟩
theorem ag70 : isAggB Try.prog 70 = some true := by kernel_rfl
theorem za70 : zAVs Try.prog 70 = some [.int 0, .int 0] := by kernel_rfl
theorem ar70 : arElem Try.prog 70 = some (2, 3) := by kernel_rfl
theorem ty75 : tyOf Try.prog 8 75 = some (.sl (.sl .int)) := by kernel_rfl
theorem fit75 : fits Try.prog 75 (.sl (.sl .int)) = true := by kernel_rfl
theorem sz75 : szOf Try.prog 75 = some 1 := by kernel_rfl
theorem ek75 : elemOk Try.prog 75 (.sl (.sl .int)) := ⟨by kernel_rfl, by kernel_rfl⟩
theorem ag75 : isAggB Try.prog 75 = some false := by kernel_rfl
theorem za75 : zAVs Try.prog 75 = some [.nilsl] := by kernel_rfl
theorem sl75 : slElem Try.prog 75 = some 25 := by kernel_rfl
theorem ty76 : tyOf Try.prog 8 76 = some (.pr (.sl (.sl .int)) .int) := by kernel_rfl
theorem fit76 : fits Try.prog 76 (.pr (.sl (.sl .int)) .int) = true := by kernel_rfl
theorem sz76 : szOf Try.prog 76 = some 2 := by kernel_rfl
theorem ek76 : elemOk Try.prog 76 (.pr (.sl (.sl .int)) .int) := ⟨by kernel_rfl, by kernel_rfl⟩
theorem ag76 : isAggB Try.prog 76 = some true := by kernel_rfl
theorem za76 : zAVs Try.prog 76 = some [.nilsl, .int 0] := by kernel_rfl
theorem fd76_0 : fieldOf Try.prog 76 0 = some (0, 75) := by kernel_rfl
theorem fd76_1 : fieldOf Try.prog 76 1 = some (1, 3) := by kernel_rfl
theorem ty77 : tyOf Try.prog 8 77 = some (.pr (.sl (.sl .int)) .int) := by kernel_rfl
theorem fit77 : fits Try.prog 77 (.pr (.sl (.sl .int)) .int) = true := by kernel_rfl
theorem sz77 : szOf Try.prog 77 = some 2 := by kernel_rfl
theorem ek77 : elemOk Try.prog 77 (.pr (.sl (.sl .int)) .int) := ⟨by kernel_rfl, by kernel_rfl⟩
theorem ag77 : isAggB Try.prog 77 = some true := by kernel_rfl
theorem za77 : zAVs Try.prog 77 = some [.nilsl, .int 0] := by kernel_rfl
theorem fd77_0 : fieldOf Try.prog 77 0 = some (0, 75) := by kernel_rfl
theorem fd77_1 : fieldOf Try.prog 77 1 = some (1, 3) := by kernel_rfl
theorem un119 : Try.prog.underlying 119 = some (.int .u32) := by kernel_rfl
theorem un120 : Try.prog.underlying 120 = some (.int .u8) := by kernel_rfl
theorem un121 : Try.prog.underlying 121 = some (.int .u8) := by kernel_rfl
theorem un124 : Try.prog.underlying 124 = some (.int .i32) := by kernel_rfl
theorem un125 : Try.prog.underlying 125 = some (.int .i32) := by kernel_rfl
theorem tabs : (tyOf Try.prog 8 2 = some .int) ∧
  (fits Try.prog 2 .int = true) ∧
  (szOf Try.prog 2 = some 1) ∧
  (elemOk Try.prog 2 .int) ∧
  (isAggB Try.prog 2 = some false) ∧
  (zAVs Try.prog 2 = some [.int 0]) ∧
  (Try.prog.underlying 2 = some (.int .i64)) ∧
  (tyOf Try.prog 8 3 = some .int) ∧
  (fits Try.prog 3 .int = true) ∧
  (szOf Try.prog 3 = some 1) ∧
  (elemOk Try.prog 3 .int) ∧
  (isAggB Try.prog 3 = some false) ∧
  (zAVs Try.prog 3 = some [.int 0]) ∧
  (Try.prog.underlying 3 = some (.int .i64)) ∧
  (tyOf Try.prog 8 4 = some .bool) ∧
  (fits Try.prog 4 .bool = true) ∧
  (szOf Try.prog 4 = some 1) ∧
  (elemOk Try.prog 4 .bool) ∧
  (isAggB Try.prog 4 = some false) ∧
  (zAVs Try.prog 4 = some [.bool false]) ∧
  (Try.prog.underlying 4 = some .bool) ∧
  (Try.prog.underlying 5 = some (.int .u8)) ∧
  (Try.prog.underlying 6 = some (.int .u8)) ∧
  (tyOf Try.prog 8 9 = some .str) ∧
  (fits Try.prog 9 .str = true) ∧
  (szOf Try.prog 9 = some 1) ∧
  (elemOk Try.prog 9 .str) ∧
  (isAggB Try.prog 9 = some false) ∧
  (zAVs Try.prog 9 = some [.str ByteArray.empty]) ∧
  (Try.prog.underlying 9 = some .string) ∧
  (tyOf Try.prog 8 10 = some .str) ∧
  (fits Try.prog 10 .str = true) ∧
  (szOf Try.prog 10 = some 1) ∧
  (elemOk Try.prog 10 .str) ∧
  (isAggB Try.prog 10 = some false) ∧
  (zAVs Try.prog 10 = some [.str ByteArray.empty]) ∧
  (Try.prog.underlying 10 = some .string) ∧
  (tyOf Try.prog 8 11 = some .str) ∧
  (fits Try.prog 11 .str = true) ∧
  (szOf Try.prog 11 = some 1) ∧
  (elemOk Try.prog 11 .str) ∧
  (isAggB Try.prog 11 = some false) ∧
  (zAVs Try.prog 11 = some [.str ByteArray.empty]) ∧
  (Try.prog.underlying 11 = some .string) ∧
  (Try.prog.underlying 12 = some (.int .u64)) ∧
  (Try.prog.underlying 21 = some (.int .i32)) ∧
  (tyOf Try.prog 8 22 = some (.sl (.pr .int .int))) ∧
  (fits Try.prog 22 (.sl (.pr .int .int)) = true) ∧
  (szOf Try.prog 22 = some 1) ∧
  (elemOk Try.prog 22 (.sl (.pr .int .int))) ∧
  (isAggB Try.prog 22 = some false) ∧
  (zAVs Try.prog 22 = some [.nilsl]) ∧
  (slElem Try.prog 22 = some 70) ∧
  (tyOf Try.prog 8 23 = some (.pr .int (.sl (.pr .int .int)))) ∧
  (fits Try.prog 23 (.pr .int (.sl (.pr .int .int))) = true) ∧
  (szOf Try.prog 23 = some 2) ∧
  (elemOk Try.prog 23 (.pr .int (.sl (.pr .int .int)))) ∧
  (isAggB Try.prog 23 = some true) ∧
  (zAVs Try.prog 23 = some [.int 0, .nilsl]) ∧
  (fieldOf Try.prog 23 0 = some (0, 3)) ∧
  (fieldOf Try.prog 23 1 = some (1, 22)) ∧
  (tyOf Try.prog 8 24 = some (.pr .int (.sl (.pr .int .int)))) ∧
  (fits Try.prog 24 (.pr .int (.sl (.pr .int .int))) = true) ∧
  (szOf Try.prog 24 = some 2) ∧
  (elemOk Try.prog 24 (.pr .int (.sl (.pr .int .int)))) ∧
  (isAggB Try.prog 24 = some true) ∧
  (zAVs Try.prog 24 = some [.int 0, .nilsl]) ∧
  (fieldOf Try.prog 24 0 = some (0, 3)) ∧
  (fieldOf Try.prog 24 1 = some (1, 22)) ∧
  (tyOf Try.prog 8 25 = some (.sl .int)) ∧
  (fits Try.prog 25 (.sl .int) = true) ∧
  (szOf Try.prog 25 = some 1) ∧
  (elemOk Try.prog 25 (.sl .int)) ∧
  (isAggB Try.prog 25 = some false) ∧
  (zAVs Try.prog 25 = some [.nilsl]) ∧
  (slElem Try.prog 25 = some 3) ∧
  (tyOf Try.prog 8 29 = some (.pr .int (.sl (.pr .int .int)))) ∧
  (fits Try.prog 29 (.pr .int (.sl (.pr .int .int))) = true) ∧
  (szOf Try.prog 29 = some 2) ∧
  (elemOk Try.prog 29 (.pr .int (.sl (.pr .int .int)))) ∧
  (isAggB Try.prog 29 = some true) ∧
  (zAVs Try.prog 29 = some [.int 0, .nilsl]) ∧
  (fieldOf Try.prog 29 0 = some (0, 3)) ∧
  (fieldOf Try.prog 29 1 = some (1, 22)) ∧
  (Try.prog.underlying 62 = some (.int .u64)) ∧
  (Try.prog.underlying 63 = some (.int .u64)) ∧
  (tyOf Try.prog 8 70 = some (.pr .int .int)) ∧
  (fits Try.prog 70 (.pr .int .int) = true) ∧
  (szOf Try.prog 70 = some 2) ∧
  (elemOk Try.prog 70 (.pr .int .int)) ∧
  (isAggB Try.prog 70 = some true) ∧
  (zAVs Try.prog 70 = some [.int 0, .int 0]) ∧
  (arElem Try.prog 70 = some (2, 3)) ∧
  (tyOf Try.prog 8 75 = some (.sl (.sl .int))) ∧
  (fits Try.prog 75 (.sl (.sl .int)) = true) ∧
  (szOf Try.prog 75 = some 1) ∧
  (elemOk Try.prog 75 (.sl (.sl .int))) ∧
  (isAggB Try.prog 75 = some false) ∧
  (zAVs Try.prog 75 = some [.nilsl]) ∧
  (slElem Try.prog 75 = some 25) ∧
  (tyOf Try.prog 8 76 = some (.pr (.sl (.sl .int)) .int)) ∧
  (fits Try.prog 76 (.pr (.sl (.sl .int)) .int) = true) ∧
  (szOf Try.prog 76 = some 2) ∧
  (elemOk Try.prog 76 (.pr (.sl (.sl .int)) .int)) ∧
  (isAggB Try.prog 76 = some true) ∧
  (zAVs Try.prog 76 = some [.nilsl, .int 0]) ∧
  (fieldOf Try.prog 76 0 = some (0, 75)) ∧
  (fieldOf Try.prog 76 1 = some (1, 3)) ∧
  (tyOf Try.prog 8 77 = some (.pr (.sl (.sl .int)) .int)) ∧
  (fits Try.prog 77 (.pr (.sl (.sl .int)) .int) = true) ∧
  (szOf Try.prog 77 = some 2) ∧
  (elemOk Try.prog 77 (.pr (.sl (.sl .int)) .int)) ∧
  (isAggB Try.prog 77 = some true) ∧
  (zAVs Try.prog 77 = some [.nilsl, .int 0]) ∧
  (fieldOf Try.prog 77 0 = some (0, 75)) ∧
  (fieldOf Try.prog 77 1 = some (1, 3)) ∧
  (Try.prog.underlying 119 = some (.int .u32)) ∧
  (Try.prog.underlying 120 = some (.int .u8)) ∧
  (Try.prog.underlying 121 = some (.int .u8)) ∧
  (Try.prog.underlying 124 = some (.int .i32)) ∧
  (Try.prog.underlying 125 = some (.int .i32)) :=
  ⟨ty2, fit2, sz2, ek2, ag2, za2, un2, ty3, fit3, sz3, ek3, ag3, za3, un3, ty4, fit4, sz4, ek4, ag4, za4, un4, un5, un6, ty9, fit9, sz9, ek9, ag9, za9, un9, ty10, fit10, sz10, ek10, ag10, za10, un10, ty11, fit11, sz11, ek11, ag11, za11, un11, un12, un21, ty22, fit22, sz22, ek22, ag22, za22, sl22, ty23, fit23, sz23, ek23, ag23, za23, fd23_0, fd23_1, ty24, fit24, sz24, ek24, ag24, za24, fd24_0, fd24_1, ty25, fit25, sz25, ek25, ag25, za25, sl25, ty29, fit29, sz29, ek29, ag29, za29, fd29_0, fd29_1, un62, un63, ty70, fit70, sz70, ek70, ag70, za70, ar70, ty75, fit75, sz75, ek75, ag75, za75, sl75, ty76, fit76, sz76, ek76, ag76, za76, fd76_0, fd76_1, ty77, fit77, sz77, ek77, ag77, za77, fd77_0, fd77_1, un119, un120, un121, un124, un125⟩
theorem mixed : Try.prog.follows .mixedOrders = true := by kernel_rfl
end Go.Proofs.Ythogfineaeklpaa.Abs
/- Pairs of numbers and slices of them: what came in, what the call made; the walks of the laws' helpers over them. -/
namespace Go.Proofs.Ythogfineaeklpaa
open Go.RowKit
set_option linter.unusedVariables false

abbrev two (p : Int × Int) : Value := .agg #[.int .i64 p.1, .int .i64 p.2]
def ofTwo (x y : Int) : Obj := .cells #[.int .i64 x, .int .i64 y] 70
theorem sizeTwo : (Try.prog.info? 70).map (·.size) = some 2 := by kernel_rfl

theorem alloc_mid (w : World) (a b c : Obj) : (((w.alloc a).alloc b).alloc c).heap[w.heap.size + 1]? = some b := by
  refine (Below.heap_alloc _ _ _ (by simp)).trans ?_
  show ((w.heap.push a).push b)[w.heap.size + 1]? = some b
  rw [Array.getElem?_push, if_pos (by simp)]

set_option maxHeartbeats 1000000 in
theorem toPair (w : World) (p : Int × Int) :
    Calls Try.prog 94 #[two p] w fun e w' => e = .returned (two p) ∧ Below w.heap.size w w' := by
  obtain ⟨x, y⟩ := p
  unfold two
  simp only
  have hb1 : ∀ a b c d, Below w.heap.size w (((w.alloc (ofTwo x y)).alloc (ofTwo a b)).alloc (ofTwo c d)) := fun a b c d => (((Below.refl _ _).alloc (Nat.le_refl _) _).alloc (by simp) _).alloc (by simp; omega) _
  go_enter Try.func94, Try.ntmps94
  go_wp2
  go_loopw [4] (fun i wr => (i = .int .i64 0 ∧ Hid (wr = ((w.alloc (ofTwo x y)).alloc (ofTwo 0 0)).alloc (ofTwo 0 0))) ∨ (i = .int .i64 1 ∧ Hid (wr = ((w.alloc (ofTwo x y)).alloc (ofTwo 0 0)).alloc (ofTwo x 0))) ∨
    (i = .int .i64 2 ∧ Hid (wr = ((w.alloc (ofTwo x y)).alloc (ofTwo 0 0)).alloc (ofTwo x y)))) (fun i _ => 2 - (intOf i).toNat)
  case atStart => exact .inl ⟨rfl, rfl⟩
  case round =>
    rcases hrel with ⟨rfl, HW⟩ | ⟨rfl, HW⟩ | ⟨rfl, HW⟩
    · have hw := HW.out
      subst hw
      clear HW
      unfold ofTwo
      go_wp2
      go_roundw
      case rel => exact .inr (.inl ⟨rfl, Lib.hid trivial⟩)
      case measure => simp [intOf]
    · have hw := HW.out
      subst hw
      clear HW
      unfold ofTwo
      go_wp2
      go_roundw
      case rel => exact .inr (.inr ⟨rfl, Lib.hid trivial⟩)
      case measure => simp [intOf]
    · have hw := HW.out
      subst hw
      clear HW
      unfold ofTwo
      go_wp2
      (try simp only [Exit.inBlock, Exit.then])
      refine bodyPost_ret (results_cell_row rfl _ _ (w.heap.size + 1) 70 #[.int .i64 x, .int .i64 y] (0, 0) _ rfl ?_ Try.underlying70 rfl sizeTwo) rfl ⟨rfl, hb1 x y x y⟩
      exact alloc_mid w _ _ _
end Go.Proofs.Ythogfineaeklpaa
/- Slices of pairs: what came in, what the call made. -/
namespace Go.Proofs.Ythogfineaeklpaa
open Go.RowKit
set_option linter.unusedVariables false

/-- The pairs of a slice lie at its address, two cells each. -/
def PairsAt (w : World) (a : Option Addr) (l : List (Int × Int)) : Prop :=
  l = [] ∨ ∃ b o, a = some ⟨b, o, none⟩ ∧ b < w.heap.size ∧ ∀ i p, l[i]? = some p → w.cell? ⟨b, o + i * 2, none⟩ = some (.int .i64 p.1) ∧ w.cell? ⟨b, o + i * 2 + 1, none⟩ = some (.int .i64 p.2)
theorem PairsAt.below {w w' : World} {a : Option Addr} {l : List (Int × Int)} {B : Nat} (h : PairsAt w a l) (hb : Below B w w') (hB : w.heap.size ≤ B) : PairsAt w' a l := by
  rcases h with h | ⟨b, o, rfl, h1, h2⟩
  · exact .inl h
  · exact .inr ⟨b, o, rfl, Nat.lt_of_lt_of_le h1 hb.size, fun i x hx => ⟨(hb.cell (p := ⟨b, o + i * 2, none⟩) (Nat.lt_of_lt_of_le h1 hB)).trans (h2 i x hx).1, (hb.cell (p := ⟨b, o + i * 2 + 1, none⟩) (Nat.lt_of_lt_of_le h1 hB)).trans (h2 i x hx).2⟩⟩
theorem PairsAt.cellAt {w : World} {a : Option Addr} {l : List (Int × Int)} (h : PairsAt w a l) {k : Nat} {p : Int × Int} (hx : l[k]? = some p) :
    ∃ b o, a = some ⟨b, o, none⟩ ∧ b < w.heap.size ∧ w.cell? ⟨b, o + k * 2, none⟩ = some (.int .i64 p.1) ∧ w.cell? ⟨b, o + k * 2 + 1, none⟩ = some (.int .i64 p.2) := by
  rcases h with rfl | ⟨b, o, h1, h2, h3⟩
  · simp at hx
  · exact ⟨b, o, h1, h2, h3 k p hx⟩

set_option maxHeartbeats 1000000 in
theorem szPairs (w : World) (a : Option Addr) (n cap : Nat) (left : Int) (h0 : 0 ≤ left) (h1 : left ≤ 1048576) (hn : n ≤ 9223372036854775807) :
    Calls Try.prog 48 #[.slice a n cap, .int .i64 left] w fun e w' => e = .returned (.int .i64 (if (n : Int) ≤ left then left - n else -1)) ∧ w' = w := by
  by_cases hbig : (n : Int) ≤ left
  · rw [if_pos hbig]
    go_enter Try.func48, Try.ntmps48
    go_wp2
    go_ret
    exact ⟨rfl, rfl⟩
  · rw [if_neg hbig]
    go_enter Try.func48, Try.ntmps48
    go_wp2
    go_ret
    exact ⟨rfl, rfl⟩

def flat2 (l : List (Int × Int)) : List Value := l.flatMap fun p => [.int .i64 p.1, .int .i64 p.2]
theorem flat2_length (l : List (Int × Int)) : (flat2 l).length = l.length * 2 := by
  induction l with
  | nil => rfl
  | cons p l ih => show ([_, _] ++ flat2 l).length = _; rw [List.length_append, ih]; simp; omega
theorem flat2_get (l : List (Int × Int)) (k : Nat) (p : Int × Int) (h : l[k]? = some p) : (flat2 l)[k * 2]? = some (.int .i64 p.1) ∧ (flat2 l)[k * 2 + 1]? = some (.int .i64 p.2) := by
  induction l generalizing k with
  | nil => simp at h
  | cons q l ih =>
    show ([_, _] ++ flat2 l)[k * 2]? = _ ∧ ([_, _] ++ flat2 l)[k * 2 + 1]? = _
    cases k with
    | zero => simp at h; subst h; exact ⟨rfl, rfl⟩
    | succ k =>
      have := ih k (by simpa using h)
      rw [List.getElem?_append_right (by simp; omega), List.getElem?_append_right (by simp; omega)]
      have e1 : (k + 1) * 2 - [Value.int .i64 q.1, Value.int .i64 q.2].length = k * 2 := by simp; omega
      have e2 : (k + 1) * 2 + 1 - [Value.int .i64 q.1, Value.int .i64 q.2].length = k * 2 + 1 := by simp; omega
      rw [e1, e2]; exact this
theorem flat2_set (l : List (Int × Int)) (k : Nat) (p : Int × Int) : ((flat2 l).set (k * 2) (.int .i64 p.1)).set (k * 2 + 1) (.int .i64 p.2) = flat2 (l.set k p) := by
  induction l generalizing k with
  | nil => simp [flat2]
  | cons q l ih =>
    cases k with
    | zero => rfl
    | succ k =>
      show (([Value.int .i64 q.1, Value.int .i64 q.2] ++ flat2 l).set ((k + 1) * 2) _).set ((k + 1) * 2 + 1) _ = [Value.int .i64 q.1, Value.int .i64 q.2] ++ flat2 (l.set k p)
      rw [← ih k, List.set_append_right _ _ (by simp; omega), List.set_append_right _ _ (by simp; omega)]
      have e1 : (k + 1) * 2 - [Value.int .i64 q.1, Value.int .i64 q.2].length = k * 2 := by simp; omega
      have e2 : (k + 1) * 2 + 1 - [Value.int .i64 q.1, Value.int .i64 q.2].length = k * 2 + 1 := by simp; omega
      rw [e1, e2]
/-- A slice of pairs of the call's own. -/
def OwnPairs (B : Nat) (v : Value) (l : List (Int × Int)) (w : World) : Prop := w.ownsRow B 70 2 v l.length (flat2 l)
theorem OwnPairs.at {B : Nat} {v : Value} {l : List (Int × Int)} {w : World} (h : OwnPairs B v l w) : ∃ a cap, v = .slice a l.length cap ∧ PairsAt w a l ∧ l.length ≤ cap := by
  rcases h.2 with ⟨h1, h2⟩ | ⟨g, cap, cur, hv, hg, hh, hn, hc, hs, ht⟩
  · exact ⟨none, 0, by rw [h1, h2], .inl (List.eq_nil_of_length_eq_zero h2), by omega⟩
  · refine ⟨some ⟨g, 0, none⟩, cap, hv, .inr ⟨g, 0, rfl, ?_, fun i x hx => ?_⟩, hn⟩
    · rcases Nat.lt_or_ge g w.heap.size with h' | h'
      · exact h'
      · rw [Array.getElem?_eq_none h'] at hh; cases hh
    · have f := flat2_get l i x hx
      have c1 := h.cells (g := g) (by rw [hv]; rfl) (i * 2) _ f.1
      have c2 := h.cells (g := g) (by rw [hv]; rfl) (i * 2 + 1) _ f.2
      have e : ∀ j, (⟨g, 0, none⟩ : Addr).add j = ⟨g, 0 + j, none⟩ := by
        intro j
        by_cases h : j = 0
        · subst h; simp [Addr.add]
        · simp [Addr.add, h]
      rw [e] at c1 c2
      exact ⟨c1, c2⟩
end Go.Proofs.Ythogfineaeklpaa
/- A slice of pairs is copied. -/
namespace Go.Proofs.Ythogfineaeklpaa
open Go.RowKit
set_option linter.unusedVariables false

theorem infoTwo : (Try.prog.info? 70).map (fun i => (i.zero, i.size, i.bytes)) = some (some (.agg #[.int .i64 0, .int .i64 0]), 2, 16) := by kernel_rfl
def pfill (l : List (Int × Int)) (k : Nat) : List (Int × Int) := l.take k ++ List.replicate (l.length - k) (0, 0)
theorem pfill_length (l : List (Int × Int)) (k : Nat) (h : k ≤ l.length) : (pfill l k).length = l.length := by simp [pfill]; omega
theorem pfill_get (l : List (Int × Int)) (k : Nat) (h : k < l.length) : (pfill l k)[k]? = some (0, 0) := by
  unfold pfill
  rw [List.getElem?_append_right (by simp; omega)]
  simp [List.getElem?_replicate]; omega
theorem pfill_set (l : List (Int × Int)) (k : Nat) (x : Int × Int) (h : l[k]? = some x) : (pfill l k).set k x = pfill l (k + 1) := by
  have hk := List.getElem?_eq_some_iff.1 h
  unfold pfill
  rw [List.take_succ_eq_append_getElem hk.1, hk.2, List.set_append_right _ _ (by simp; omega)]
  have e : l.length - k = (l.length - (k + 1)) + 1 := by have := hk.1; omega
  rw [e, List.replicate_succ]
  simp [List.length_take, Nat.min_eq_left (Nat.le_of_lt hk.1)]
theorem pfill_end (l : List (Int × Int)) : pfill l l.length = l := by simp [pfill]
theorem flat2_zero (n : Nat) : flat2 (List.replicate n (0, 0)) = List.replicate (n * 2) (.int .i64 0) := by
  induction n with
  | zero => rfl
  | succ n ih =>
    rw [List.replicate_succ]
    show [_, _] ++ flat2 _ = _
    rw [ih, show (n + 1) * 2 = n * 2 + 1 + 1 by omega, List.replicate_succ, List.replicate_succ]; rfl
theorem made_two (n : Nat) : (madeCells (Value.agg #[.int .i64 0, .int .i64 0]).cells (n * 2)).toList = flat2 (List.replicate n (0, 0)) := by
  rw [flat2_zero]
  show (madeCells #[Value.int .i64 0, .int .i64 0] (n * 2)).toList = _
  apply List.ext_getElem
  · simp [madeCells]
  · intro j h1 h2
    have h3 : j % 2 = 0 ∨ j % 2 = 1 := by omega
    rcases h3 with h3 | h3 <;> simp [madeCells, h3]

def PCopyEnd (l : List (Int × Int)) (w : World) (e : Ending) (w' : World) : Prop := ∃ v, e = .returned v ∧ OwnPairs w.heap.size v l w' ∧ Below w.heap.size w w'
set_option maxHeartbeats 1000000 in
theorem copyPairs (w : World) (a : Option Addr) (l : List (Int × Int)) (cap : Nat) (h : PairsAt w a l) (hl : l.length ≤ 1048576) :
    Calls Try.prog 51 #[.slice a l.length cap] w (PCopyEnd l w) := by
  obtain ⟨i0, hi, hz0, hz1, hz2⟩ := info_parts infoTwo
  obtain ⟨w1, hmk, hown0, hg0⟩ := run_make_full (P := Try.prog) w w.heap.size 22 70 i0 (.agg #[.int .i64 0, .int .i64 0]) 2 Try.underlying22 hi hz0 hz1 .i64 .i64 l.length (by rw [hz2]; omega) (by unfold maxLen; omega) (Nat.le_refl _)
  have hb0 : Below w.heap.size w w1 := (Below.refl _ _).grown hg0 (Nat.le_refl _) (by simp)
  have hstart : w1.ownsRow w.heap.size 70 2 (.slice (some ⟨w.heap.size, 0, none⟩) l.length l.length) l.length (flat2 (pfill l 0)) := by
    rw [made_two] at hown0
    have e : pfill l 0 = List.replicate l.length (0, 0) := by simp [pfill]
    rw [e]; exact hown0
  have HT := Lib.hid h
  have HS := Lib.hid hstart
  clear hown0 hg0 hstart h hi hz0 hz1 hz2
  go_enter Try.func51, Try.ntmps51
  go_wp2
  clear hmk
  go_loopw [4] (fun i wr => ∃ k : Nat, k ≤ l.length ∧ i = .int .i64 k ∧ Hid (wr.ownsRow w.heap.size 70 2 (.slice (some ⟨w.heap.size, 0, none⟩) l.length l.length) l.length (flat2 (pfill l k))) ∧ Below w.heap.size w wr) (fun i _ => l.length - (intOf i).toNat)
  case atStart => exact ⟨0, Nat.zero_le _, rfl, HS.out, hb0⟩
  case round =>
    obtain ⟨k, hk, rfl, HO, hb⟩ := hrel
    by_cases hlt : k < l.length
    · obtain ⟨x, hx⟩ : ∃ x, l[k]? = some x := ⟨_, List.getElem?_eq_getElem hlt⟩
      obtain ⟨b, o, rfl, hbl, hcell, hcell'⟩ := (HT.out.below hb (Nat.le_refl _)).cellAt hx
      have HX := Lib.hid hx
      clear hx
      go_wp2_with fail
      refine (toPair wr x).mono ?_
      rintro e w2 ⟨rfl, hb2⟩
      have hr2 := HO.out.kept (w' := w2) (row := none) ⟨hb2.os, hb2.tape, hb2.output, hb2.size, fun k hk _ => hb2.block k hk⟩ (.inr (by simp [Value.ownBlock]))
      have hz := flat2_get (pfill l k) k _ (pfill_get l k hlt)
      have hlen2 : l.length * 2 = l.length + l.length := by omega
      have hc0 : w2.cell? ⟨w.heap.size, k * 2, none⟩ = some (.int .i64 0) := (hr2.cellAt (k * 2) (by omega)).trans hz.1
      have hc1 : w2.cell? ⟨w.heap.size, k * 2 + 1, none⟩ = some (.int .i64 0) := (hr2.cellAt (k * 2 + 1) (by omega)).trans hz.2
      have hf0 := hr2.frozenAt (k * 2)
      have hf1 := hr2.frozenAt (k * 2 + 1)
      have hst := ((hr2.stored (k * 2) (.int .i64 x.1)).1.stored (k * 2 + 1) (.int .i64 x.2)).1
      rw [flat2_set, pfill_set l k x HX.out] at hst
      have HST := Lib.hid hst
      have hb3 := hb.trans (hb2.mono hb.size)
      clear hst hr2 hb2 hz hcell hcell'
      obtain ⟨x0, x1⟩ := x
      simp only at *
      go_wp2
      go_roundw
      case rel => exact ⟨k + 1, by omega, by go_num, HST.out, (hb3.setCell (p := ⟨w.heap.size, k * 2, none⟩) (Nat.le_refl _) _).setCell (p := ⟨w.heap.size, k * 2 + 1, none⟩) (Nat.le_refl _) _⟩
      case measure => simp [intOf]; omega
    · obtain rfl : k = l.length := by omega
      go_wp2
      go_ret
      exact ⟨_, rfl, by unfold OwnPairs; rw [pfill_end] at HO; exact HO.out, hb⟩
end Go.Proofs.Ythogfineaeklpaa
/- Pairs, and slices of pairs, compared. -/
namespace Go.Proofs.Ythogfineaeklpaa
open Go.RowKit
set_option linter.unusedVariables false

set_option maxHeartbeats 1000000 in
theorem eqPair (w : World) (p q : Int × Int) :
    Calls Try.prog 99 #[two p, two q] w fun e w' => e = .returned (.bool (decide (p = q))) ∧ Below w.heap.size w w' := by
  obtain ⟨x, y⟩ := p
  obtain ⟨x', y'⟩ := q
  unfold two
  simp only
  have hb1 : Below w.heap.size w ((w.alloc (ofTwo x y)).alloc (ofTwo x' y')) := ((Below.refl _ _).alloc (Nat.le_refl _) _).alloc (by simp) _
  have F : Hid (((w.alloc (ofTwo x y)).alloc (ofTwo x' y')).cell? ⟨w.heap.size, 0, none⟩ = some (.int .i64 x) ∧ ((w.alloc (ofTwo x y)).alloc (ofTwo x' y')).cell? ⟨w.heap.size, 1, none⟩ = some (.int .i64 y) ∧
      ((w.alloc (ofTwo x y)).alloc (ofTwo x' y')).cell? ⟨w.heap.size + 1, 0, none⟩ = some (.int .i64 x') ∧ ((w.alloc (ofTwo x y)).alloc (ofTwo x' y')).cell? ⟨w.heap.size + 1, 1, none⟩ = some (.int .i64 y')) := by
    show _ ∧ _ ∧ _ ∧ _
    unfold ofTwo
    refine ⟨?_, ?_, ?_, ?_⟩ <;> simp
  go_enter Try.func99, Try.ntmps99
  go_wp2
  unfold ofTwo at F hb1
  generalize ((w.alloc (Obj.cells #[.int .i64 x, .int .i64 y] 70)).alloc (Obj.cells #[.int .i64 x', .int .i64 y'] 70)) = wb at *
  go_loopw [5] (fun i wr => Hid (∃ n, wr = wb.drewN n) ∧ (i = .int .i64 0 ∨ (i = .int .i64 1 ∧ Hid (x = x')) ∨ (i = .int .i64 2 ∧ Hid (x = x' ∧ y = y')))) (fun i _ => 2 - (intOf i).toNat)
  case atStart => exact ⟨⟨0, rfl⟩, .inl rfl⟩
  case round =>
    obtain ⟨HW, hrel⟩ := hrel
    have FF : wr.cell? ⟨w.heap.size, 0, none⟩ = some (.int .i64 x) ∧ wr.cell? ⟨w.heap.size, 1, none⟩ = some (.int .i64 y) ∧
      wr.cell? ⟨w.heap.size + 1, 0, none⟩ = some (.int .i64 x') ∧ wr.cell? ⟨w.heap.size + 1, 1, none⟩ = some (.int .i64 y') := by
      obtain ⟨n, hw⟩ := HW.out
      rw [hw]; exact F.out
    obtain ⟨F1, F2, F3, F4⟩ := FF
    have HB : Hid (∀ q, Below w.heap.size w (wr.drewN q)) := fun q => by
      obtain ⟨n, hw⟩ := HW.out
      rw [hw]; exact ⟨hb1.os, hb1.tape, hb1.output, hb1.size, hb1.block⟩
    have HD : Hid (∀ q, ∃ n, wr.drewN q = wb.drewN n) := fun q => by
      obtain ⟨n, hw⟩ := HW.out
      exact ⟨n + q, by rw [hw]; simp [World.drewN, Nat.add_assoc]⟩
    clear HW F hb1
    rcases hrel with rfl | ⟨rfl, E⟩ | ⟨rfl, E⟩
    · by_cases e : x = x'
      · subst e
        go_wp2
        go_quiet (fail)
        go_wp2
        go_roundw
        case rel => exact ⟨HD.out _, .inr (.inl ⟨rfl, Lib.hid trivial⟩)⟩
        case measure => simp [intOf]
      · go_wp2
        go_quiet (fail)
        go_wp2
        go_ret
        exact ⟨by simp [e], HB.out _⟩
    · have ex := E.out
      subst ex
      clear E
      by_cases e : y = y'
      · subst e
        go_wp2
        go_quiet (fail)
        go_wp2
        go_roundw
        case rel => exact ⟨HD.out _, .inr (.inr ⟨rfl, Lib.hid (by simp)⟩)⟩
        case measure => simp [intOf]
      · go_wp2
        go_quiet (fail)
        go_wp2
        go_ret
        exact ⟨by simp [e], HB.out _⟩
    · obtain ⟨ex, ey⟩ := E.out
      subst ex ey
      clear E
      go_wp2
      go_ret
      exact ⟨by simp, HB.out 0⟩
end Go.Proofs.Ythogfineaeklpaa
/- Slices of pairs, and Graphs, compared with their like. -/
namespace Go.Proofs.Ythogfineaeklpaa
open Go.RowKit
set_option linter.unusedVariables false

set_option maxHeartbeats 1000000 in
theorem eqPairs (w : World) (a1 a2 : Option Addr) (l : List (Int × Int)) (c1 c2 : Nat) (h1 : PairsAt w a1 l) (h2 : PairsAt w a2 l) (hl : l.length ≤ 9223372036854775807) :
    Calls Try.prog 54 #[.slice a1 l.length c1, .slice a2 l.length c2] w fun e w' => e = .returned (.bool true) ∧ Below w.heap.size w w' := by
  have H1 := Lib.hid h1
  have H2 := Lib.hid h2
  clear h1 h2
  go_enter Try.func54, Try.ntmps54
  go_wp2
  go_loopw [5] (fun i wr => ∃ k : Nat, k ≤ l.length ∧ i = .int .i64 k ∧ Below w.heap.size w wr) (fun i _ => l.length - (intOf i).toNat)
  case atStart => exact ⟨0, Nat.zero_le _, rfl, Below.refl _ _⟩
  case round =>
    obtain ⟨k, hk, rfl, hb⟩ := hrel
    by_cases hlt : k < l.length
    · obtain ⟨x, hx⟩ : ∃ x, l[k]? = some x := ⟨_, List.getElem?_eq_getElem hlt⟩
      obtain ⟨b1, o1, rfl, _, hp1, hq1⟩ := (H1.out.below hb (Nat.le_refl _)).cellAt hx
      obtain ⟨b2, o2, rfl, _, hp2, hq2⟩ := (H2.out.below hb (Nat.le_refl _)).cellAt hx
      have p1 := cell_regrown hp1
      have q1 := cell_regrown hq1
      have p2 := cell_regrown hp2
      have q2 := cell_regrown hq2
      have hk0 : (0 : Int) ≤ (k : Int) := by omega
      have hkl : (k : Int) < (l.length : Int) := by omega
      have cM := fun W => eqPair W x x
      simp only [decide_true] at cM
      obtain ⟨x0, x1⟩ := x
      unfold two at cM
      simp only at *
      clear hx hp1 hp2 hq1 hq2
      go_wp2_with fail
      refine wp_region_quiet_below (by kernel_rfl) (by kernel_rfl) ?_
      repeat (quiet_step ((go_at_call 99; exact Calls.regrown_of (cM _))))
      refine wpQuiet_nil ?_
      intro _ hw'
      obtain ⟨⟨dq, osq⟩, hw''⟩ := hw'
      subst hw''
      go_wp2
      go_roundw
      case rel => exact ⟨k + 1, by omega, by go_num, hb.trans ((below_regrown wr dq osq).mono hb.size)⟩
      case measure => simp [intOf]; omega
    · go_wp2
      go_ret
      exact ⟨rfl, hb⟩
end Go.Proofs.Ythogfineaeklpaa
/- Slices of numbers: what came in, what the call made; the walks of the laws' helpers over them. -/
namespace Go.Proofs.Ythogfineaeklpaa
open Go.RowKit
set_option linter.unusedVariables false

/-- The numbers of a slice lie at its address, one a cell. -/
def IntsAt (w : World) (a : Option Addr) (l : List Int) : Prop :=
  l = [] ∨ ∃ b o, a = some ⟨b, o, none⟩ ∧ b < w.heap.size ∧ ∀ i x, l[i]? = some x → w.cell? ⟨b, o + i, none⟩ = some (.int .i64 x)
theorem IntsAt.below {w w' : World} {a : Option Addr} {l : List Int} {B : Nat} (h : IntsAt w a l) (hb : Below B w w') (hB : w.heap.size ≤ B) : IntsAt w' a l := by
  rcases h with h | ⟨b, o, rfl, h1, h2⟩
  · exact .inl h
  · exact .inr ⟨b, o, rfl, Nat.lt_of_lt_of_le h1 hb.size, fun i x hx => (hb.cell (p := ⟨b, o + i, none⟩) (Nat.lt_of_lt_of_le h1 hB)).trans (h2 i x hx)⟩
theorem IntsAt.cellAt {w : World} {a : Option Addr} {l : List Int} (h : IntsAt w a l) {k : Nat} {x : Int} (hx : l[k]? = some x) :
    ∃ b o, a = some ⟨b, o, none⟩ ∧ b < w.heap.size ∧ w.cell? ⟨b, o + k, none⟩ = some (.int .i64 x) := by
  rcases h with rfl | ⟨b, o, h1, h2, h3⟩
  · simp at hx
  · exact ⟨b, o, h1, h2, h3 k x hx⟩
theorem infoInt : (Try.prog.info? 3).map (fun i => (i.zero, i.size, i.bytes)) = some (some (.int .i64 0), 1, 8) := by kernel_rfl
def vals (l : List Int) : List Value := l.map (Value.int .i64)
/-- A slice of numbers of the call's own. -/
def OwnInts (B : Nat) (v : Value) (l : List Int) (w : World) : Prop := w.ownsRow B 3 1 v l.length (vals l)
theorem addI (b o i : Nat) : (⟨b, o, none⟩ : Addr).add i = ⟨b, o + i, none⟩ := by
  by_cases h : i = 0
  · subst h; simp [Addr.add]
  · simp [Addr.add, h]
theorem OwnInts.at {B : Nat} {v : Value} {l : List Int} {w : World} (h : OwnInts B v l w) : ∃ a cap, v = .slice a l.length cap ∧ IntsAt w a l ∧ l.length ≤ cap := by
  rcases h.2 with ⟨h1, h2⟩ | ⟨g, cap, cur, hv, hg, hh, hn, hc, hs, ht⟩
  · exact ⟨none, 0, by rw [h1, h2], .inl (List.eq_nil_of_length_eq_zero h2), by omega⟩
  · refine ⟨some ⟨g, 0, none⟩, cap, hv, .inr ⟨g, 0, rfl, ?_, fun i x hx => ?_⟩, hn⟩
    · rcases Nat.lt_or_ge g w.heap.size with h' | h'
      · exact h'
      · rw [Array.getElem?_eq_none h'] at hh; cases hh
    · have := h.cells (g := g) (by rw [hv]; rfl) i (.int .i64 x) (by simp [vals, hx])
      rw [addI] at this
      exact this

def ifill (l : List Int) (k : Nat) : List Int := l.take k ++ List.replicate (l.length - k) 0
theorem ifill_get (l : List Int) (k : Nat) (h : k < l.length) : (vals (ifill l k))[k]? = some (.int .i64 0) := by
  unfold vals ifill
  rw [List.getElem?_map, List.getElem?_append_right (by simp; omega)]
  simp [List.getElem?_replicate]; omega
theorem ifill_set (l : List Int) (k : Nat) (x : Int) (h : l[k]? = some x) : (vals (ifill l k)).set k (.int .i64 x) = vals (ifill l (k + 1)) := by
  have hk := List.getElem?_eq_some_iff.1 h
  unfold vals ifill
  rw [← List.map_set, List.take_succ_eq_append_getElem hk.1, hk.2, List.set_append_right _ _ (by simp; omega)]
  have e : l.length - k = (l.length - (k + 1)) + 1 := by have := hk.1; omega
  rw [e, List.replicate_succ]
  simp [List.length_take, Nat.min_eq_left (Nat.le_of_lt hk.1)]
theorem ifill_end (l : List Int) : ifill l l.length = l := by simp [ifill]

def ICopyEnd (l : List Int) (w : World) (e : Ending) (w' : World) : Prop := ∃ v, e = .returned v ∧ OwnInts w.heap.size v l w' ∧ Below w.heap.size w w'
set_option maxHeartbeats 1000000 in
theorem copyInts (w : World) (a : Option Addr) (l : List Int) (cap : Nat) (h : IntsAt w a l) (hl : l.length ≤ 1048576) :
    Calls Try.prog 18 #[.slice a l.length cap] w (ICopyEnd l w) := by
  obtain ⟨i0, hi, hz0, hz1, hz2⟩ := info_parts infoInt
  obtain ⟨w1, hmk, hown0, hg0⟩ := run_make_full (P := Try.prog) w w.heap.size 25 3 i0 (.int .i64 0) 1 Try.underlying25 hi hz0 hz1 .i64 .i64 l.length (by rw [hz2]; omega) (by unfold maxLen; omega) (Nat.le_refl _)
  have hb0 : Below w.heap.size w w1 := (Below.refl _ _).grown hg0 (Nat.le_refl _) (by simp)
  have hstart : w1.ownsRow w.heap.size 3 1 (.slice (some ⟨w.heap.size, 0, none⟩) l.length l.length) l.length (vals (ifill l 0)) := by
    have e : (madeCells (Value.int .i64 0).cells (l.length * 1)).toList = vals (ifill l 0) := by
      rw [Nat.mul_one]; show (madeCells #[Value.int .i64 0] l.length).toList = _
      rw [toList_madeCells_one]; simp [vals, ifill]
    rw [← e]; exact hown0
  have HT := Lib.hid h
  have HS := Lib.hid hstart
  clear hown0 hg0 hstart h hi hz0 hz1 hz2
  go_enter Try.func18, Try.ntmps18
  go_wp2
  clear hmk
  go_loopw [4] (fun i wr => ∃ k : Nat, k ≤ l.length ∧ i = .int .i64 k ∧ Hid (wr.ownsRow w.heap.size 3 1 (.slice (some ⟨w.heap.size, 0, none⟩) l.length l.length) l.length (vals (ifill l k))) ∧ Below w.heap.size w wr) (fun i _ => l.length - (intOf i).toNat)
  case atStart => exact ⟨0, Nat.zero_le _, rfl, HS.out, hb0⟩
  case round =>
    obtain ⟨k, hk, rfl, HO, hb⟩ := hrel
    by_cases hlt : k < l.length
    · obtain ⟨x, hx⟩ : ∃ x, l[k]? = some x := ⟨_, List.getElem?_eq_getElem hlt⟩
      obtain ⟨b, o, rfl, hbl, hcell2⟩ := (HT.out.below hb (Nat.le_refl _)).cellAt hx
      have hc2 : wr.cell? ⟨w.heap.size, k, none⟩ = some (.int .i64 0) := (HO.out.cellAt k (by omega)).trans (ifill_get l k hlt)
      have hf2 := HO.out.frozenAt k
      have hst := (HO.out.stored k (.int .i64 x)).1
      rw [ifill_set l k x hx] at hst
      have HST := Lib.hid hst
      clear hst hx
      go_wp2
      go_roundw
      case rel => exact ⟨k + 1, by omega, by go_num, HST.out, hb.setCell (p := ⟨w.heap.size, k, none⟩) (Nat.le_refl _) _⟩
      case measure => simp [intOf]; omega
    · obtain rfl : k = l.length := by omega
      go_wp2
      go_ret
      exact ⟨_, rfl, by unfold OwnInts; rw [ifill_end] at HO; exact HO.out, hb⟩

set_option maxHeartbeats 1000000 in
theorem eqInts (w : World) (a1 a2 : Option Addr) (l : List Int) (c1 c2 : Nat) (h1 : IntsAt w a1 l) (h2 : IntsAt w a2 l) (hl : l.length ≤ 9223372036854775807) :
    Calls Try.prog 21 #[.slice a1 l.length c1, .slice a2 l.length c2] w fun e w' => e = .returned (.bool true) ∧ Below w.heap.size w w' := by
  have H1 := Lib.hid h1
  have H2 := Lib.hid h2
  clear h1 h2
  go_enter Try.func21, Try.ntmps21
  go_wp2
  go_loopw [5] (fun i wr => ∃ k : Nat, k ≤ l.length ∧ i = .int .i64 k ∧ Below w.heap.size w wr) (fun i _ => l.length - (intOf i).toNat)
  case atStart => exact ⟨0, Nat.zero_le _, rfl, Below.refl _ _⟩
  case round =>
    obtain ⟨k, hk, rfl, hb⟩ := hrel
    by_cases hlt : k < l.length
    · obtain ⟨x, hx⟩ : ∃ x, l[k]? = some x := ⟨_, List.getElem?_eq_getElem hlt⟩
      obtain ⟨b1, o1, rfl, _, hc1⟩ := (H1.out.below hb (Nat.le_refl _)).cellAt hx
      obtain ⟨b2, o2, rfl, _, hc2⟩ := (H2.out.below hb (Nat.le_refl _)).cellAt hx
      have hk0 : (0 : Int) ≤ (k : Int) := by omega
      have hkl : (k : Int) < (l.length : Int) := by omega
      clear hx
      go_wp2_with fail
      go_quiet (fail)
      go_wp2
      go_roundw
      case rel => exact ⟨k + 1, by omega, by go_num, Go.below_drewN hb nq⟩
      case measure => simp [intOf]; omega
    · go_wp2
      go_ret
      exact ⟨rfl, hb⟩
end Go.Proofs.Ythogfineaeklpaa
/- The marks that the laws write into slices of numbers: written, and found again. -/
namespace Go.Proofs.Ythogfineaeklpaa
open Go.RowKit
set_option linter.unusedVariables false

def marksI (k0 : Int) (n : Nat) : List Int := (List.range n).map fun i : Nat => k0 + (i : Int)
theorem marksI_length (k0 : Int) (n : Nat) : (marksI k0 n).length = n := by simp [marksI]
theorem marksI_get (k0 : Int) (n i : Nat) (h : i < n) : (marksI k0 n)[i]? = some (k0 + (i : Int)) := by simp [marksI, h]
def ihalf (k0 : Int) (l : List Int) (j : Nat) : List Int := (marksI k0 l.length).take j ++ l.drop j
theorem ihalf_get (k0 : Int) (l : List Int) (j : Nat) (x : Int) (h : l[j]? = some x) : (vals (ihalf k0 l j))[j]? = some (.int .i64 x) := by
  have hj := (List.getElem?_eq_some_iff.1 h).1
  unfold vals ihalf
  rw [List.getElem?_map, List.getElem?_append_right (by simp [marksI_length]; omega)]
  simp [marksI_length, Nat.min_eq_left (Nat.le_of_lt hj), List.getElem?_drop, h]
theorem ihalf_set (k0 : Int) (l : List Int) (j : Nat) (hj : j < l.length) : (vals (ihalf k0 l j)).set j (.int .i64 (k0 + (j : Int))) = vals (ihalf k0 l (j + 1)) := by
  unfold vals ihalf
  have hm := List.getElem?_eq_some_iff.1 (marksI_get k0 l.length j hj)
  have hlen : ((marksI k0 l.length).take j).length = j := by simp [marksI_length]; omega
  rw [← List.map_set, List.take_succ_eq_append_getElem hm.1, hm.2, List.set_append_right _ _ (by omega), hlen, Nat.sub_self, List.drop_eq_getElem_cons hj, List.set_cons_zero, List.append_assoc]
  rfl
theorem ihalf_zero (k0 : Int) (l : List Int) : ihalf k0 l 0 = l := by simp [ihalf]
theorem ihalf_end (k0 : Int) (l : List Int) : ihalf k0 l l.length = marksI k0 l.length := by
  unfold ihalf; rw [List.take_of_length_le (by rw [marksI_length]; exact Nat.le_refl _)]; simp
theorem grown_refl (w : World) (r : Option Nat) : w.grownBy w r := ⟨rfl, rfl, rfl, Nat.le_refl _, fun _ _ _ => rfl⟩
theorem grown_set {w w' : World} {g : Nat} (h : w.grownBy w' (some g)) (j : Nat) (v : Value) : w.grownBy (w'.setCell ⟨g, j, none⟩ v) (some g) :=
  ⟨h.os, h.tape, h.output, by simpa [World.setCell] using h.size, fun k hk hne => (Below.heap_setCell w' ⟨g, j, none⟩ v k (by rintro rfl; exact hne rfl)).trans (h.block k hk hne)⟩

set_option maxHeartbeats 1000000 in
theorem markInts_some (w : World) (B g cap : Nat) (l : List Int) (k0 : Int) (h0 : 0 ≤ k0) (h1 : k0 ≤ 4000000000000000000) (h : w.ownsRow B 3 1 (.slice (some ⟨g, 0, none⟩) l.length cap) l.length (vals l)) (hl : l.length ≤ 4000000000000000000) :
    Calls Try.prog 29 #[.slice (some ⟨g, 0, none⟩) l.length cap, .int .i64 k0] w fun e w' => e = .returned (.int .i64 (k0 + l.length)) ∧
      w'.ownsRow B 3 1 (.slice (some ⟨g, 0, none⟩) l.length cap) l.length (vals (marksI k0 l.length)) ∧ w.grownBy w' (some g) := by
  have HO := Lib.hid h
  clear h
  go_enter Try.func29, Try.ntmps29
  go_wp2
  go_loopw [1, 5] (fun kk i wr => ∃ j : Nat, j ≤ l.length ∧ i = .int .i64 j ∧ kk = .int .i64 (k0 + j) ∧ Hid (wr.ownsRow B 3 1 (.slice (some ⟨g, 0, none⟩) l.length cap) l.length (vals (ihalf k0 l j))) ∧ Hid (w.grownBy wr (some g))) (fun _ i _ => l.length - (intOf i).toNat)
  case atStart => exact ⟨0, Nat.zero_le _, rfl, by simp, by rw [ihalf_zero]; exact HO.out, grown_refl _ _⟩
  case round =>
    obtain ⟨j, hj, rfl, rfl, HR, HG⟩ := hrel
    by_cases hlt : j < l.length
    · obtain ⟨x, hx⟩ : ∃ x, l[j]? = some x := ⟨_, List.getElem?_eq_getElem hlt⟩
      have hc1 : wr.cell? ⟨g, j, none⟩ = some (.int .i64 x) := (HR.out.cellAt j (by omega)).trans (ihalf_get k0 l j x hx)
      have hf1 := HR.out.frozenAt j
      have hst := (HR.out.stored j (.int .i64 (k0 + (j : Int)))).1
      rw [ihalf_set k0 l j hlt] at hst
      have HST := Lib.hid hst
      have HG2 := Lib.hid (grown_set HG.out j (.int .i64 (k0 + (j : Int))))
      clear hst hx
      go_wp2
      go_roundw
      case rel => exact ⟨j + 1, by omega, by go_num, by go_num, HST.out, HG2.out⟩
      case measure => simp [intOf]; omega
    · obtain rfl : j = l.length := by omega
      go_wp2
      go_ret
      exact ⟨rfl, by rw [← ihalf_end]; exact HR.out, HG.out⟩
/-- .. whatever slice of the call's own it is. -/
theorem markInts (w : World) (B : Nat) (v : Value) (l : List Int) (k0 : Int) (h0 : 0 ≤ k0) (h1 : k0 ≤ 4000000000000000000) (h : OwnInts B v l w) (hl : l.length ≤ 4000000000000000000) :
    Calls Try.prog 29 #[v, .int .i64 k0] w fun e w' => e = .returned (.int .i64 (k0 + l.length)) ∧ OwnInts B v (marksI k0 l.length) w' ∧ w.grownBy w' v.ownBlock := by
  rcases h.2 with ⟨h2, h3⟩ | ⟨g, cap, cur, hv, _⟩
  · obtain rfl : l = [] := List.eq_nil_of_length_eq_zero h3
    subst h2
    have HO := Lib.hid h
    clear h h3
    go_enter Try.func29, Try.ntmps29
    go_wp2
    go_loopw [1, 5] (fun kk i wr => i = .int .i64 0 ∧ kk = .int .i64 k0 ∧ Hid (wr = w)) (fun _ i _ => 0)
    case atStart => exact ⟨rfl, rfl, rfl⟩
    case round =>
      obtain ⟨rfl, rfl, HW⟩ := hrel
      go_wp2
      go_ret
      have hw := HW.out
      subst hw
      exact ⟨by simp, by simpa [marksI] using HO.out, grown_refl _ _⟩
  · subst hv
    refine (markInts_some w B g cap l k0 h0 h1 h hl).mono ?_
    rintro e w' ⟨rfl, ho, hg⟩
    exact ⟨rfl, by unfold OwnInts; rw [marksI_length]; exact ho, hg⟩

set_option maxHeartbeats 1000000 in
theorem heldInts (w : World) (a : Option Addr) (n cap : Nat) (k0 : Int) (h0 : 0 ≤ k0) (h1 : k0 ≤ 4000000000000000000) (h : IntsAt w a (marksI k0 n)) (hl : n ≤ 4000000000000000000) :
    Calls Try.prog 30 #[.slice a n cap, .int .i64 k0] w fun e w' => e = .returned (.int .i64 (k0 + n)) ∧ w' = w := by
  have HT := Lib.hid h
  clear h
  go_enter Try.func30, Try.ntmps30
  go_wp2
  go_loopw [1, 5] (fun kk i wr => ∃ j : Nat, j ≤ n ∧ i = .int .i64 j ∧ kk = .int .i64 (k0 + j) ∧ Hid (wr = w)) (fun _ i _ => n - (intOf i).toNat)
  case atStart => exact ⟨0, Nat.zero_le _, rfl, by simp, rfl⟩
  case round =>
    obtain ⟨j, hj, rfl, rfl, HW⟩ := hrel
    have hw := HW.out
    subst hw
    clear HW
    by_cases hlt : j < n
    · obtain ⟨b, o, rfl, _, hcell⟩ := HT.out.cellAt (marksI_get k0 n j hlt)
      go_wp2
      go_roundw
      case rel => exact ⟨j + 1, by omega, by go_num, by go_num, Lib.hid trivial⟩
      case measure => simp [intOf]; omega
    · obtain rfl : j = n := by omega
      go_wp2
      go_ret
      exact ⟨rfl, rfl⟩
end Go.Proofs.Ythogfineaeklpaa
/- The marks that the laws write into slices of pairs: written, and found again. -/
namespace Go.Proofs.Ythogfineaeklpaa
open Go.RowKit
set_option linter.unusedVariables false

def flatI (l : List (Int × Int)) : List Int := l.flatMap fun p => [p.1, p.2]
theorem flatI_vals (l : List (Int × Int)) : vals (flatI l) = flat2 l := by
  induction l with
  | nil => rfl
  | cons p l ih => show vals ([_, _] ++ flatI l) = [_, _] ++ flat2 l; rw [← ih]; rfl
theorem flatI_length (l : List (Int × Int)) : (flatI l).length = l.length * 2 := by
  have := congrArg List.length (flatI_vals l)
  rw [flat2_length] at this
  simpa [vals] using this
/-- A slice of pairs of the call's own that is marked. -/
def OwnPairMarks (B : Nat) (v : Value) (k0 : Int) (n : Nat) (w : World) : Prop := w.ownsRow B 70 2 v n (vals (marksI k0 (n * 2)))
/-- The marks lie at a slice's address. -/
def PairMarksAt (w : World) (a : Option Addr) (k0 : Int) (n : Nat) : Prop := n = 0 ∨ ∃ b o, a = some ⟨b, o, none⟩ ∧ b < w.heap.size ∧ ∀ j, j < n * 2 → w.cell? ⟨b, o + j, none⟩ = some (.int .i64 (k0 + (j : Int)))
theorem PairMarksAt.below {w w' : World} {a : Option Addr} {k0 : Int} {n : Nat} {B : Nat} (h : PairMarksAt w a k0 n) (hb : Below B w w') (hB : w.heap.size ≤ B) : PairMarksAt w' a k0 n := by
  rcases h with h | ⟨b, o, rfl, h1, h2⟩
  · exact .inl h
  · exact .inr ⟨b, o, rfl, Nat.lt_of_lt_of_le h1 hb.size, fun j hj => (hb.cell (p := ⟨b, o + j, none⟩) (Nat.lt_of_lt_of_le h1 hB)).trans (h2 j hj)⟩
theorem OwnPairMarks.at {B : Nat} {v : Value} {k0 : Int} {n : Nat} {w : World} (h : OwnPairMarks B v k0 n w) : ∃ a cap, v = .slice a n cap ∧ PairMarksAt w a k0 n ∧ n ≤ cap := by
  rcases h.2 with ⟨h1, h2⟩ | ⟨g, cap, cur, hv, hg, hh, hn, hc, hs, ht⟩
  · exact ⟨none, 0, by rw [h1, h2], .inl h2, by omega⟩
  · refine ⟨some ⟨g, 0, none⟩, cap, hv, .inr ⟨g, 0, rfl, ?_, fun j hj => ?_⟩, hn⟩
    · rcases Nat.lt_or_ge g w.heap.size with h' | h'
      · exact h'
      · rw [Array.getElem?_eq_none h'] at hh; cases hh
    · have := h.cells (g := g) (by rw [hv]; rfl) j (.int .i64 (k0 + (j : Int))) (by unfold vals; rw [List.getElem?_map, marksI_get k0 _ j hj]; rfl)
      rw [addI] at this
      exact this

set_option maxHeartbeats 1000000 in
theorem markPairs_some (w : World) (B g cap : Nat) (l : List (Int × Int)) (k0 : Int) (h0 : 0 ≤ k0) (h1 : k0 ≤ 4000000000000000000) (h : w.ownsRow B 70 2 (.slice (some ⟨g, 0, none⟩) l.length cap) l.length (flat2 l)) (hl : l.length ≤ 1000000000000000000) :
    Calls Try.prog 68 #[.slice (some ⟨g, 0, none⟩) l.length cap, .int .i64 k0] w fun e w' => e = .returned (.int .i64 (k0 + l.length * 2)) ∧
      OwnPairMarks B (.slice (some ⟨g, 0, none⟩) l.length cap) k0 l.length w' ∧ w.grownBy w' (some g) := by
  rw [← flatI_vals] at h
  have HO := Lib.hid h
  have hfl := flatI_length l
  clear h
  generalize flatI l = L at *
  generalize l.length = n at *
  clear l
  go_enter Try.func68, Try.ntmps68
  go_wp2
  go_loopw [1, 5] (fun kk i wr => ∃ j : Nat, j ≤ n ∧ i = .int .i64 j ∧ kk = .int .i64 (k0 + j * 2) ∧ Hid (wr.ownsRow B 70 2 (.slice (some ⟨g, 0, none⟩) n cap) n (vals (ihalf k0 L (j * 2)))) ∧ Hid (w.grownBy wr (some g))) (fun _ i _ => n - (intOf i).toNat)
  case atStart => exact ⟨0, Nat.zero_le _, rfl, by simp, by rw [Nat.zero_mul, ihalf_zero]; exact HO.out, grown_refl _ _⟩
  case round =>
    obtain ⟨j, hj, rfl, rfl, HR, HG⟩ := hrel
    by_cases hlt : j < n
    · go_wp2
      go_loopw [1, 6] (fun kk i wr => ∃ q : Nat, q ≤ 2 ∧ i = .int .i64 q ∧ kk = .int .i64 (k0 + j * 2 + q) ∧ Hid (wr.ownsRow B 70 2 (.slice (some ⟨g, 0, none⟩) n cap) n (vals (ihalf k0 L (j * 2 + q)))) ∧ Hid (w.grownBy wr (some g))) (fun _ i _ => 2 - (intOf i).toNat)
      case atStart => exact ⟨0, Nat.zero_le _, rfl, by simp, HR.out, HG.out⟩
      case round =>
        clear HR HG
        obtain ⟨q, hq, rfl, rfl, HR, HG⟩ := hrel
        by_cases hq2 : q < 2
        · obtain ⟨x, hx⟩ : ∃ x, L[j * 2 + q]? = some x := ⟨_, List.getElem?_eq_getElem (by omega)⟩
          have hc1 : wr.cell? ⟨g, j * 2 + q, none⟩ = some (.int .i64 x) := (HR.out.cellAt (j * 2 + q) (by omega)).trans (ihalf_get k0 L (j * 2 + q) x hx)
          have hf1 := HR.out.frozenAt (j * 2 + q)
          have hst := (HR.out.stored (j * 2 + q) (.int .i64 (k0 + ((j * 2 + q : Nat) : Int)))).1
          rw [ihalf_set k0 L (j * 2 + q) (by omega)] at hst
          have HG2 := Lib.hid (grown_set HG.out (j * 2 + q) (.int .i64 (k0 + ((j * 2 + q : Nat) : Int))))
          have e3 : k0 + ((j * 2 + q : Nat) : Int) = k0 + (j : Int) * 2 + (q : Int) := by omega
          rw [e3] at hst HG2
          have HST := Lib.hid hst
          clear hst hx e3 HR HG
          go_wp2
          go_roundw
          case rel => exact ⟨q + 1, by omega, by go_num, by go_num, HST.out, HG2.out⟩
          case measure => simp [intOf]; omega
        · obtain rfl : q = 2 := by omega
          have HR2 : Hid (wr.ownsRow B 70 2 (.slice (some ⟨g, 0, none⟩) n cap) n (vals (ihalf k0 L ((j + 1) * 2)))) := by rw [show (j + 1) * 2 = j * 2 + 2 by omega]; exact HR
          clear HR
          go_wp2
          go_roundw
          case rel => exact ⟨j + 1, by omega, by go_num, by go_num, HR2.out, HG.out⟩
          case measure => simp [intOf]; omega
    · obtain rfl : j = n := by omega
      go_wp2
      go_ret
      exact ⟨rfl, by unfold OwnPairMarks; rw [← hfl, ← ihalf_end, hfl]; exact HR.out, HG.out⟩
end Go.Proofs.Ythogfineaeklpaa
/- Graphs: the walks of the laws' helpers over them. -/
namespace Go.Proofs.Ythogfineaeklpaa
open Go.RowKit
set_option linter.unusedVariables false

abbrev graphV (n : Int) (e : Value) : Value := .agg #[.int .i64 n, e]

set_option maxHeartbeats 1000000 in
theorem szGraph (w : World) (n : Int) (a : Option Addr) (len cap : Nat) (left : Int) (h0 : 0 ≤ left) (h1 : left ≤ 1048576) (hn : len ≤ 9223372036854775807) :
    Calls Try.prog 15 #[graphV n (.slice a len cap), .int .i64 left] w fun e w' => e = .returned (.int .i64 (if (len : Int) ≤ left then left - len else -1)) ∧ Below w.heap.size w w' := by
  have C := Lib.hid fun W => szPairs W a len cap left h0 h1 hn
  have hB : Hid (∀ o, Below w.heap.size w (w.alloc o)) := fun o => (Below.refl _ _).alloc (Nat.le_refl _) _
  by_cases hbig : (len : Int) ≤ left
  · rw [if_pos hbig] at C ⊢
    go_enter Try.func15, Try.ntmps15
    go_wp2_with fail
    refine (C.out _).mono ?_
    rintro e w2 ⟨rfl, rfl⟩
    go_wp2
    go_ret
    exact ⟨rfl, hB.out _⟩
  · rw [if_neg hbig] at C ⊢
    go_enter Try.func15, Try.ntmps15
    go_wp2_with fail
    refine (C.out _).mono ?_
    rintro e w2 ⟨rfl, rfl⟩
    go_wp2
    go_ret
    exact ⟨rfl, hB.out _⟩

theorem heap_set_same {w : World} {g : Nat} {c : Array Value} {t : TypeId} {f : Nat × Nat} (h : w.heap[g]? = some (.cells c t f)) (i : Nat) (v : Value) :
    (w.setCell ⟨g, i, none⟩ v).heap[g]? = some (.cells (c.setIfInBounds i v) t f) := by
  show (w.heap.modify g _)[g]? = _
  rw [Array.getElem?_modify, if_pos rfl, h]
  rfl
theorem cell_of_heap {w : World} {g : Nat} {c : Array Value} {t : TypeId} {f : Nat × Nat} (h : w.heap[g]? = some (.cells c t f)) (i : Nat) : w.cell? ⟨g, i, none⟩ = c[i]? := by
  simp [World.cell?, h]
theorem frozen_of_heap {w : World} {g : Nat} {c : Array Value} {t : TypeId} (h : w.heap[g]? = some (.cells c t (0, 0))) (i : Nat) : w.frozen? ⟨g, i, none⟩ = false := by
  simp [World.frozen?, h]
theorem sizeGraph : (Try.prog.info? 29).map (·.size) = some 2 := by kernel_rfl

theorem own_le {w : World} {base base' size n : Nat} {e : TypeId} {v : Value} {xs : List Value} (h : w.ownsRow base e size v n xs) (hb : base' ≤ base) : w.ownsRow base' e size v n xs := by
  refine ⟨h.1, ?_⟩
  rcases h.2 with h2 | ⟨g, cap, cur, hv, hg, hr⟩
  · exact .inl h2
  · exact .inr ⟨g, cap, cur, hv, Nat.le_trans hb hg, hr⟩
theorem alloc_first (w : World) (a b c : Obj) : (((w.alloc a).alloc b).alloc c).heap[w.heap.size]? = some a := by
  refine (Below.heap_alloc _ _ _ (by simp; omega)).trans ((Below.heap_alloc _ _ _ (by simp)).trans ?_)
  show (w.heap.push a)[w.heap.size]? = some a
  rw [Array.getElem?_push, if_pos rfl]
theorem alloc_last (w : World) (a b c : Obj) : (((w.alloc a).alloc b).alloc c).heap[w.heap.size + 1 + 1]? = some c := by
  show (((w.heap.push a).push b).push c)[w.heap.size + 1 + 1]? = some c
  rw [Array.getElem?_push, if_pos (by simp)]
theorem alloc_below (w : World) (a b c : Obj) : Below w.heap.size w (((w.alloc a).alloc b).alloc c) ∧ (((w.alloc a).alloc b).alloc c).heap.size = w.heap.size + 3 :=
  ⟨(((Below.refl _ _).alloc (Nat.le_refl _) _).alloc (by simp) _).alloc (by simp; omega) _, by simp⟩
def GCopyEnd (n : Int) (l : List (Int × Int)) (w : World) (e : Ending) (w' : World) : Prop := ∃ v, e = .returned (graphV n v) ∧ OwnPairs w.heap.size v l w' ∧ Below w.heap.size w w'
set_option maxHeartbeats 1000000 in
theorem toGraph (w : World) (n : Int) (a : Option Addr) (l : List (Int × Int)) (cap : Nat) (h : PairsAt w a l) (hl : l.length ≤ 1048576) :
    Calls Try.prog 17 #[graphV n (.slice a l.length cap)] w (GCopyEnd n l w) := by
  have C : Hid (∀ W, Below w.heap.size w W → Calls Try.prog 51 #[.slice a l.length cap] W (PCopyEnd l W)) := fun W hb => copyPairs W a l cap (h.below hb (Nat.le_refl _)) hl
  clear h
  have G2 := Lib.hid (alloc_mid w (.cells #[.int .i64 n, .slice a l.length cap] 24) (.cells #[.int .i64 0, .slice none 0 0] 29) (.cells #[.int .i64 n, .slice none 0 0] 29))
  have G3 := Lib.hid (alloc_last w (.cells #[.int .i64 n, .slice a l.length cap] 24) (.cells #[.int .i64 0, .slice none 0 0] 29) (.cells #[.int .i64 n, .slice none 0 0] 29))
  have GB := Lib.hid (alloc_below w (.cells #[.int .i64 n, .slice a l.length cap] 24) (.cells #[.int .i64 0, .slice none 0 0] 29) (.cells #[.int .i64 n, .slice none 0 0] 29))
  go_enter Try.func17, Try.ntmps17
  go_wp2_with fail
  generalize ((w.alloc (.cells #[.int .i64 n, .slice a l.length cap] 24)).alloc (.cells #[.int .i64 0, .slice none 0 0] 29)).alloc (.cells #[.int .i64 n, .slice none 0 0] 29) = W1 at *
  refine (C.out _ GB.out.1).mono ?_
  rintro e w2 ⟨v, rfl, ho, hb2⟩
  have hsz := GB.out.2
  have g2 : w2.heap[w.heap.size + 1]? = some (.cells #[.int .i64 0, .slice none 0 0] 29 (0, 0)) := (hb2.block _ (by omega)).trans G2.out
  have g3 : w2.heap[w.heap.size + 1 + 1]? = some (.cells #[.int .i64 n, .slice none 0 0] 29 (0, 0)) := (hb2.block _ (by omega)).trans G3.out
  have hbb := GB.out.1.trans (hb2.mono (by omega))
  obtain ⟨va, vc, rfl, _, _⟩ := OwnPairs.at ho
  clear G2 G3 GB C hb2
  have HO := Lib.hid ho
  have HB := Lib.hid hbb
  have HS := Lib.hid hsz
  clear ho hbb hsz
  have k2a := cell_of_heap g2 0
  have k2b := cell_of_heap g2 1
  have k3a := cell_of_heap g3 0
  have k3b := cell_of_heap g3 1
  have f2a := frozen_of_heap g2 0
  have f2b := frozen_of_heap g2 1
  have f3a := frozen_of_heap g3 0
  have f3b := frozen_of_heap g3 1
  simp at k2a k2b k3a k3b
  have HG2 := Lib.hid g2
  have HG3 := Lib.hid g3
  clear g2 g3
  go_wp2
  (try simp only [Exit.inBlock, Exit.then])
  have e1 : (w2.setCell ⟨w.heap.size + 1 + 1, 1, none⟩ (.slice va l.length vc)).heap[w.heap.size + 1]? = some (.cells #[.int .i64 0, .slice none 0 0] 29 (0, 0)) := (Below.heap_setCell w2 _ _ _ (by simp)).trans HG2.out
  have e2 := heap_set_same (heap_set_same e1 0 (.int .i64 n)) 1 (.slice va l.length vc)
  refine bodyPost_ret (results_cell_row rfl _ _ (w.heap.size + 1) 29 _ (0, 0) _ rfl e2 Try.underlying29 rfl sizeGraph) rfl ⟨_, rfl, ?_, ?_⟩
  · have hs := HS.out
    have o1 := ownsRow_setCell_below HO.out (a := ⟨w.heap.size + 1 + 1, 1, none⟩) (by simp only; omega) (.slice va l.length vc)
    have o2 := ownsRow_setCell_below o1 (a := ⟨w.heap.size + 1, 0, none⟩) (by simp only; omega) (.int .i64 n)
    have o3 := ownsRow_setCell_below o2 (a := ⟨w.heap.size + 1, 1, none⟩) (by simp only; omega) (.slice va l.length vc)
    exact own_le o3 (by omega)
  · exact ((HB.out.setCell (p := ⟨w.heap.size + 1 + 1, 1, none⟩) (by simp only; omega) _).setCell (p := ⟨w.heap.size + 1, 0, none⟩) (by simp only; omega) _).setCell (p := ⟨w.heap.size + 1, 1, none⟩) (by simp only; omega) _

set_option maxHeartbeats 1000000 in
theorem eqGraph (w : World) (n : Int) (a1 a2 : Option Addr) (l : List (Int × Int)) (c1 c2 : Nat) (h1 : PairsAt w a1 l) (h2 : PairsAt w a2 l) (hl : l.length ≤ 9223372036854775807) :
    Calls Try.prog 20 #[graphV n (.slice a1 l.length c1), graphV n (.slice a2 l.length c2)] w fun e w' => e = .returned (.bool true) ∧ Below w.heap.size w w' := by
  have C : Hid (∀ W, Below w.heap.size w W → Calls Try.prog 54 #[.slice a1 l.length c1, .slice a2 l.length c2] W fun e w' => e = .returned (.bool true) ∧ Below W.heap.size W w') :=
    fun W hb => eqPairs W a1 a2 l c1 c2 (h1.below hb (Nat.le_refl _)) (h2.below hb (Nat.le_refl _)) hl
  have HB : Hid (∀ o1 o2, Below w.heap.size w ((w.alloc o1).alloc o2)) := fun o1 o2 => ((Below.refl _ _).alloc (Nat.le_refl _) _).alloc (by simp) _
  clear h1 h2
  go_enter Try.func20, Try.ntmps20
  go_wp2_with fail
  refine (C.out _ (HB.out _ _)).mono ?_
  rintro e w2 ⟨rfl, hb2⟩
  have hb3 := (HB.out _ _).trans (hb2.mono (by simp; omega))
  go_wp2
  go_ret
  exact ⟨rfl, hb3⟩

set_option maxHeartbeats 1000000 in
/-- Whatever slice of pairs of the call's own it is. -/
theorem markPairs (w : World) (B : Nat) (v : Value) (l : List (Int × Int)) (k0 : Int) (h0 : 0 ≤ k0) (h1 : k0 ≤ 4000000000000000000) (h : OwnPairs B v l w) (hl : l.length ≤ 1000000000000000000) :
    Calls Try.prog 68 #[v, .int .i64 k0] w fun e w' => e = .returned (.int .i64 (k0 + l.length * 2)) ∧ OwnPairMarks B v k0 l.length w' ∧ w.grownBy w' v.ownBlock := by
  rcases h.2 with ⟨h2, h3⟩ | ⟨g, cap, cur, hv, _⟩
  · obtain rfl : l = [] := List.eq_nil_of_length_eq_zero h3
    subst h2
    have HO := Lib.hid h
    clear h h3
    go_enter Try.func68, Try.ntmps68
    go_wp2
    go_loopw [1, 5] (fun kk i wr => i = .int .i64 0 ∧ kk = .int .i64 k0 ∧ Hid (wr = w)) (fun _ i _ => 0)
    case atStart => exact ⟨rfl, rfl, rfl⟩
    case round =>
      obtain ⟨rfl, rfl, HW⟩ := hrel
      go_wp2
      go_ret
      have hw := HW.out
      subst hw
      exact ⟨by simp, by unfold OwnPairMarks; simpa [marksI, OwnPairs, flat2, vals] using HO.out, grown_refl _ _⟩
  · subst hv
    exact markPairs_some w B g cap l k0 h0 h1 h hl
theorem markGraph (w : World) (B : Nat) (n : Int) (v : Value) (l : List (Int × Int)) (k0 : Int) (h0 : 0 ≤ k0) (h1 : k0 ≤ 4000000000000000000) (h : OwnPairs B v l w) (hl : l.length ≤ 1000000000000000000) :
    Calls Try.prog 28 #[graphV n v, .int .i64 k0] w fun e w' => e = .returned (.int .i64 (k0 + l.length * 2)) ∧ w.grownBy w' v.ownBlock := by
  have C : Hid (∀ o, Calls Try.prog 68 #[v, .int .i64 k0] (w.alloc o) fun e w' => e = .returned (.int .i64 (k0 + l.length * 2)) ∧ OwnPairMarks B v k0 l.length w' ∧ (w.alloc o).grownBy w' v.ownBlock) :=
    fun o => markPairs (w.alloc o) B v l k0 h0 h1 (World.ownsRow.alloc h o) hl
  obtain ⟨va, vc, rfl, _, _⟩ := OwnPairs.at h
  clear h
  have HA : Hid (∀ o, w.grownBy (w.alloc o) (Value.slice va l.length vc).ownBlock) := fun o => ⟨rfl, rfl, rfl, by simp, fun k hk _ => Below.heap_alloc w o k hk⟩
  go_enter Try.func28, Try.ntmps28
  go_wp2_with fail
  refine (C.out _).mono ?_
  rintro e w2 ⟨rfl, _, hg⟩
  have HG := Lib.hid ((HA.out _).trans hg)
  clear hg HA C
  go_wp2
  go_ret
  exact ⟨rfl, HG.out⟩
end Go.Proofs.Ythogfineaeklpaa
/- Slices of slices of numbers: what came in; the walks of the laws' helpers over them. -/
namespace Go.Proofs.Ythogfineaeklpaa
open Go.RowKit
set_option linter.unusedVariables false

/-- The rows of a slice lie at its address, one a cell. -/
def GridAt (w : World) (a : Option Addr) (l : List (List Int)) : Prop :=
  l = [] ∨ ∃ b o, a = some ⟨b, o, none⟩ ∧ b < w.heap.size ∧ ∀ i r, l[i]? = some r → ∃ ra rc, w.cell? ⟨b, o + i, none⟩ = some (.slice ra r.length rc) ∧ IntsAt w ra r
theorem GridAt.below {w w' : World} {a : Option Addr} {l : List (List Int)} {B : Nat} (h : GridAt w a l) (hb : Below B w w') (hB : w.heap.size ≤ B) : GridAt w' a l := by
  rcases h with h | ⟨b, o, rfl, h1, h2⟩
  · exact .inl h
  · refine .inr ⟨b, o, rfl, Nat.lt_of_lt_of_le h1 hb.size, fun i r hr => ?_⟩
    obtain ⟨ra, rc, h3, h4⟩ := h2 i r hr
    exact ⟨ra, rc, (hb.cell (p := ⟨b, o + i, none⟩) (Nat.lt_of_lt_of_le h1 hB)).trans h3, h4.below hb hB⟩
theorem GridAt.cellAt {w : World} {a : Option Addr} {l : List (List Int)} (h : GridAt w a l) {k : Nat} {r : List Int} (hx : l[k]? = some r) :
    ∃ b o, a = some ⟨b, o, none⟩ ∧ b < w.heap.size ∧ ∃ ra rc, w.cell? ⟨b, o + k, none⟩ = some (.slice ra r.length rc) ∧ IntsAt w ra r := by
  rcases h with rfl | ⟨b, o, h1, h2, h3⟩
  · simp at hx
  · exact ⟨b, o, h1, h2, h3 k r hx⟩
/-- How many numbers all rows have. -/
def totI (l : List (List Int)) : Nat := (l.map (·.length)).sum
theorem totI_take (l : List (List Int)) (k : Nat) (x : List Int) (h : l[k]? = some x) : totI (l.take (k + 1)) = totI (l.take k) + x.length := by
  have := List.getElem?_eq_some_iff.1 h
  rw [List.take_succ_eq_append_getElem this.1, this.2]
  simp [totI]

def SzGrid (l : List (List Int)) (left : Int) (w : World) (e : Ending) (w' : World) : Prop := ∃ r : Int, e = .returned (.int .i64 r) ∧ (r = -1 ∨ (0 ≤ r ∧ r + l.length + totI l = left)) ∧ w = w'
end Go.Proofs.Ythogfineaeklpaa
/- A slice of slices of numbers is copied: each row in memory of its own. -/
namespace Go.Proofs.Ythogfineaeklpaa
open Go.RowKit
set_option linter.unusedVariables false

theorem own_base {w : World} {base base' size n : Nat} {e : TypeId} {v : Value} {xs : List Value} (h : w.ownsRow base e size v n xs) (hb : base' ≤ base) : w.ownsRow base' e size v n xs := by
  refine ⟨h.1, ?_⟩
  rcases h.2 with h2 | ⟨g, cap, cur, hv, hg, hr⟩
  · exact .inl h2
  · exact .inr ⟨g, cap, cur, hv, Nat.le_trans hb hg, hr⟩
/-- Rows of the call's own, no two of them in one block. -/
def RowsOwn (B : Nat) (rs : List Value) (l : List (List Int)) (w : World) : Prop :=
  rs.length = l.length ∧ (∀ (i : Nat) (rv : Value) (r : List Int), rs[i]? = some rv → l[i]? = some r → OwnInts B rv r w) ∧ (∀ (i j : Nat) (ri rj : Value) (b : Nat), rs[i]? = some ri → rs[j]? = some rj → i < j → ri.ownBlock = some b → rj.ownBlock ≠ some b)
theorem RowsOwn.below {B : Nat} {rs : List Value} {l : List (List Int)} {w w' : World} (h : RowsOwn B rs l w) (hb : Below w.heap.size w w') : RowsOwn B rs l w' := by
  refine ⟨h.1, fun i rv r h1 h2 => ?_, h.2.2⟩
  refine World.ownsRow.kept (w' := w') (row := none) (h.2.1 i rv r h1 h2) ⟨hb.os, hb.tape, hb.output, hb.size, fun k hk _ => hb.block k hk⟩ ?_
  by_cases e : rv.ownBlock = none
  · exact .inl e
  · exact .inr e
theorem RowsOwn.store {B : Nat} {rs : List Value} {l : List (List Int)} {w : World} (h : RowsOwn B rs l w) {a : Addr} (ha : a.block < B) (u : Value) : RowsOwn B rs l (w.setCell a u) :=
  ⟨h.1, fun i rv r h1 h2 => ownsRow_setCell_below (h.2.1 i rv r h1 h2) ha u, h.2.2⟩
theorem RowsOwn.snoc {B : Nat} {rs : List Value} {l : List (List Int)} {w w' : World} {rv : Value} {r : List Int} (h : RowsOwn B rs l w) (hb : Below w.heap.size w w') (ho : OwnInts w.heap.size rv r w') (hB : B ≤ w.heap.size) : RowsOwn B (rs ++ [rv]) (l ++ [r]) w' := by
  have hk := h.below hb
  refine ⟨by simp [h.1], fun i rv' r' h1 h2 => ?_, fun i j ri rj b h1 h2 hij h3 => ?_⟩
  · by_cases hi : i < rs.length
    · rw [List.getElem?_append_left hi] at h1
      rw [List.getElem?_append_left (by rw [← h.1]; exact hi)] at h2
      exact hk.2.1 i rv' r' h1 h2
    · have hi2 : i = rs.length := by have := (List.getElem?_eq_some_iff.1 h1).1; simp at this; omega
      subst hi2
      rw [List.getElem?_append_right (Nat.le_refl _)] at h1
      rw [h.1, List.getElem?_append_right (Nat.le_refl _)] at h2
      simp at h1 h2
      subst h1 h2
      exact own_base ho hB
  · by_cases hj : j < rs.length
    · rw [List.getElem?_append_left hj] at h2
      rw [List.getElem?_append_left (by omega)] at h1
      exact h.2.2 i j ri rj b h1 h2 hij h3
    · have hj2 : j = rs.length := by have := (List.getElem?_eq_some_iff.1 h2).1; simp at this; omega
      subst hj2
      rw [List.getElem?_append_right (Nat.le_refl _)] at h2
      rw [List.getElem?_append_left hij] at h1
      simp at h2
      subst h2
      obtain ⟨r', hr'⟩ : ∃ r', l[i]? = some r' := ⟨_, List.getElem?_eq_getElem (by rw [← h.1]; exact hij)⟩
      have h5 := (World.ownsRow.lt (h.2.1 i ri r' h1 hr') b h3).2
      intro h6
      have h7 := (World.ownsRow.lt ho b h6).1
      omega
theorem infoRow : (Try.prog.info? 25).map (fun i => (i.zero, i.size, i.bytes)) = some (some (.slice none 0 0), 1, 24) := by kernel_rfl
/-- A slice of rows of the call's own: its rows lie in other blocks than itself. -/
def OwnGrid (B : Nat) (v : Value) (l : List (List Int)) (w : World) : Prop := ∃ (g : Nat) (rs : List Value), v = .slice (some ⟨g, 0, none⟩) l.length l.length ∧ B ≤ g ∧ w.ownsRow B 25 1 v l.length rs ∧ RowsOwn (g + 1) rs l w
theorem OwnGrid.at {B : Nat} {v : Value} {l : List (List Int)} {w : World} (h : OwnGrid B v l w) : ∃ g cap, v = .slice (some ⟨g, 0, none⟩) l.length cap ∧ GridAt w (some ⟨g, 0, none⟩) l := by
  obtain ⟨g, rs, rfl, hB, ho, hr⟩ := h
  refine ⟨g, _, rfl, .inr ⟨g, 0, rfl, (ho.lt g rfl).2, fun i r hi => ?_⟩⟩
  have hil := (List.getElem?_eq_some_iff.1 hi).1
  obtain ⟨rv, hrv⟩ : ∃ rv, rs[i]? = some rv := ⟨_, List.getElem?_eq_getElem (by rw [hr.1]; exact hil)⟩
  obtain ⟨ra, rc, e, h1, _⟩ := (hr.2.1 i rv r hrv hi).at
  have hc := ho.cells (g := g) rfl i _ hrv
  rw [addI, e] at hc
  exact ⟨ra, rc, hc, h1⟩

def gcells (rs : List Value) (n : Nat) : List Value := rs ++ List.replicate (n - rs.length) (.slice none 0 0)
theorem gcells_get (rs : List Value) (n : Nat) (h : rs.length < n) : (gcells rs n)[rs.length]? = some (.slice none 0 0) := by
  unfold gcells
  rw [List.getElem?_append_right (Nat.le_refl _)]
  simp [List.getElem?_replicate]; omega
theorem gcells_set (rs : List Value) (n : Nat) (v : Value) (h : rs.length < n) : (gcells rs n).set rs.length v = gcells (rs ++ [v]) n := by
  unfold gcells
  rw [List.set_append_right _ _ (Nat.le_refl _), Nat.sub_self]
  have e : n - rs.length = (n - (rs ++ [v]).length) + 1 := by simp; omega
  rw [e, List.replicate_succ]
  simp
end Go.Proofs.Ythogfineaeklpaa
/- Spaces: the walks of the laws' helpers over them. -/
namespace Go.Proofs.Ythogfineaeklpaa
open Go.RowKit
set_option linter.unusedVariables false

abbrev spaceV (s e : Value) : Value := .agg #[s, e]
def SzSpace (l : List (List Int)) (m : Nat) (left : Int) (w : World) (e : Ending) (w' : World) : Prop := ∃ r : Int, e = .returned (.int .i64 r) ∧ (r = -1 ∨ (0 ≤ r ∧ r + l.length + totI l + m = left)) ∧ Below w.heap.size w w'
end Go.Proofs.Ythogfineaeklpaa
/- A Space is copied: its slices in memory of their own. -/
namespace Go.Proofs.Ythogfineaeklpaa
open Go.RowKit
set_option linter.unusedVariables false

/-- A slice of rows of the call's own, all of its blocks ahead of M. -/
def GridTo (B M : Nat) (v : Value) (l : List (List Int)) (w : World) : Prop :=
  ∃ (g : Nat) (rs : List Value), v = .slice (some ⟨g, 0, none⟩) l.length l.length ∧ B ≤ g ∧ g < M ∧ w.ownsRow B 25 1 v l.length rs ∧ RowsOwn (g + 1) rs l w ∧ ∀ (i : Nat) (rv : Value) (b : Nat), rs[i]? = some rv → rv.ownBlock = some b → b < M
theorem OwnGrid.to {B : Nat} {v : Value} {l : List (List Int)} {w : World} (h : OwnGrid B v l w) : GridTo B w.heap.size v l w := by
  obtain ⟨g, rs, rfl, hB, ho, hr⟩ := h
  refine ⟨g, rs, rfl, hB, (ho.lt g rfl).2, ho, hr, fun i rv b h1 h2 => ?_⟩
  obtain ⟨r, hr'⟩ : ∃ r, l[i]? = some r := ⟨_, List.getElem?_eq_getElem (by rw [← hr.1]; exact (List.getElem?_eq_some_iff.1 h1).1)⟩
  exact (World.ownsRow.lt (hr.2.1 i rv r h1 hr') b h2).2
theorem GridTo.grid {B M : Nat} {v : Value} {l : List (List Int)} {w : World} (h : GridTo B M v l w) : OwnGrid B v l w := by
  obtain ⟨g, rs, h1, h2, _, h3, h4, _⟩ := h
  exact ⟨g, rs, h1, h2, h3, h4⟩
theorem GridTo.below {B M : Nat} {v : Value} {l : List (List Int)} {w w' : World} (h : GridTo B M v l w) (hb : Below w.heap.size w w') : GridTo B M v l w' := by
  obtain ⟨g, rs, rfl, h2, h3, h4, h5, h6⟩ := h
  exact ⟨g, rs, rfl, h2, h3, h4.kept (w' := w') (row := none) ⟨hb.os, hb.tape, hb.output, hb.size, fun k hk _ => hb.block k hk⟩ (.inr (by simp [Value.ownBlock])), h5.below hb, h6⟩
theorem GridTo.store {B M : Nat} {v : Value} {l : List (List Int)} {w : World} (h : GridTo B M v l w) {a : Addr} (ha : a.block < B) (u : Value) : GridTo B M v l (w.setCell a u) := by
  obtain ⟨g, rs, h1, h2, h3, h4, h5, h6⟩ := h
  exact ⟨g, rs, h1, h2, h3, ownsRow_setCell_below h4 ha u, h5.store (by omega) u, h6⟩
theorem GridTo.le {B B' M : Nat} {v : Value} {l : List (List Int)} {w : World} (h : GridTo B M v l w) (hB : B' ≤ B) : GridTo B' M v l w := by
  obtain ⟨g, rs, h1, h2, h3, h4, h5, h6⟩ := h
  exact ⟨g, rs, h1, by omega, h3, own_base h4 hB, h5, h6⟩

def SpaceCopyEnd (l : List (List Int)) (m : List (Int × Int)) (w : World) (e : Ending) (w' : World) : Prop := ∃ v s M, e = .returned (spaceV v s) ∧ GridTo w.heap.size M v l w' ∧ OwnPairs M s m w' ∧ w.heap.size ≤ M ∧ Below w.heap.size w w'
end Go.Proofs.Ythogfineaeklpaa
/- The laws' helpers, as contracts of the abstract walk. -/
namespace Go.Proofs.Ythogfineaeklpaa.Abs
open Go.RowKit
set_option linter.unusedVariables false
set_option linter.unusedSimpArgs false
set_option maxHeartbeats 4000000

abbrev TP : Ty := .pr .int .int
abbrev TG : Ty := .pr .int (.sl TP)
abbrev TS : Ty := .pr (.sl (.sl .int)) (.sl TP)
theorem rep_ints {ok : Nat → Prop} {w : World} {l : List Int} {v : Value} (h : Rep ok w (.sl .int) l [v]) : ∃ a cap, v = .slice a l.length cap ∧ IntsAt w a l ∧ l.length ≤ 9223372036854775807 := by
  unfold Rep at h
  obtain ⟨a, cap, he, _, h3, h4⟩ := h
  simp at he
  refine ⟨a, cap, he, ?_, by unfold maxLen at h3; omega⟩
  rcases h4 with h4 | ⟨b, o, xs, rfl, _, h5, h6, h7, h8⟩
  · exact .inl h4
  · refine .inr ⟨b, o, rfl, h5, fun i x hx => ?_⟩
    obtain ⟨cs, hr, hc⟩ := rep_cells h6 h7 h8 hx
    unfold Rep at hr
    subst hr
    simpa [Ty.n] using hc 0 _ rfl
theorem rep_pairs {ok : Nat → Prop} {w : World} {l : List (Int × Int)} {v : Value} (h : Rep ok w (.sl TP) l [v]) : ∃ a cap, v = .slice a l.length cap ∧ PairsAt w a l ∧ l.length ≤ 9223372036854775807 := by
  unfold Rep at h
  obtain ⟨a, cap, he, _, h3, h4⟩ := h
  simp at he
  refine ⟨a, cap, he, ?_, by unfold maxLen at h3; omega⟩
  rcases h4 with h4 | ⟨b, o, xs, rfl, _, h5, h6, h7, h8⟩
  · exact .inl h4
  · refine .inr ⟨b, o, rfl, h5, fun i x hx => ?_⟩
    obtain ⟨cs, hr, hc⟩ := rep_cells h6 h7 h8 hx
    unfold Rep at hr
    obtain ⟨c1, c2, rfl, k1, k2⟩ := hr
    unfold Rep at k1 k2
    subst k1
    subst k2
    exact ⟨by simpa [Ty.n] using hc 0 _ rfl, by simpa [Ty.n] using hc 1 _ rfl⟩
theorem rep_grid {ok : Nat → Prop} {w : World} {l : List (List Int)} {v : Value} (h : Rep ok w (.sl (.sl .int)) l [v]) :
    ∃ a cap, v = .slice a l.length cap ∧ GridAt w a l ∧ l.length ≤ 9223372036854775807 ∧ ∀ s ∈ l, s.length ≤ 9223372036854775807 := by
  unfold Rep at h
  obtain ⟨a, cap, he, _, h3, h4⟩ := h
  simp at he
  rcases h4 with rfl | ⟨b, o, xs, rfl, _, h5, h6, h7, h8⟩
  · exact ⟨a, cap, he, .inl rfl, by unfold maxLen at h3; omega, fun s hs => by simp at hs⟩
  · have one : ∀ (i : Nat) (r : List Int), l[i]? = some r → ∃ ra rc, w.cell? ⟨b, o + i, none⟩ = some (.slice ra r.length rc) ∧ IntsAt w ra r ∧ r.length ≤ 9223372036854775807 := fun i r hr => by
      obtain ⟨cs, hR, hc⟩ := rep_cells h6 h7 h8 hr
      have hlen := hR.length
      match cs, hlen with
      | [u], _ =>
        obtain ⟨ra, rc, rfl, k1, k2⟩ := rep_ints hR
        exact ⟨ra, rc, by simpa [Ty.n] using hc 0 _ rfl, k1, k2⟩
    refine ⟨_, cap, he, .inr ⟨b, o, rfl, h5, fun i r hr => ?_⟩, by unfold maxLen at h3; omega, fun s hs => ?_⟩
    · obtain ⟨ra, rc, k1, k2, _⟩ := one i r hr
      exact ⟨ra, rc, k1, k2⟩
    · obtain ⟨i, hi⟩ := List.mem_iff_getElem?.1 hs
      obtain ⟨_, _, _, _, k⟩ := one i s hi
      exact k
theorem own_blk {w : World} {base : Nat} {e : TypeId} {k : Nat} {v : Value} {n : Nat} {xs : List Value} (h : w.ownsRow base e k v n xs) : ∀ g, ownB v = some g → base ≤ g := fun g hg => by
  rcases h.2 with ⟨rfl, _⟩ | ⟨g', cap, cur, rfl, hb, _⟩
  · cases hg
  · cases hg; exact hb
theorem own_ints {B : Nat} {v : Value} {l : List Int} {w : World} (h : OwnInts B v l w) : Rep (fun b => B ≤ b) w (.sl .int) l [v] :=
  row_rep (xs := vals l) h ⟨by simp [vals, Ty.n], fun i y hy => by
    unfold Rep
    have : (vals l)[i]? = some (.int .i64 y) := by simp [vals, hy]
    have hlt := (List.getElem?_eq_some_iff.1 this)
    simp only [Ty.n, Nat.mul_one]
    rw [List.drop_eq_getElem_cons hlt.1, hlt.2]; rfl⟩ (own_blk h)
theorem own_pairs {B : Nat} {v : Value} {l : List (Int × Int)} {w : World} (h : OwnPairs B v l w) : Rep (fun b => B ≤ b) w (.sl TP) l [v] :=
  row_rep (xs := flat2 l) h ⟨by rw [flat2_length]; rfl, fun i y hy => by
    unfold Rep
    refine ⟨[.int .i64 y.1], [.int .i64 y.2], ?_, rfl, rfl⟩
    obtain ⟨h1, h2⟩ := flat2_get l i y hy
    have l1 := List.getElem?_eq_some_iff.1 h1
    have l2 := List.getElem?_eq_some_iff.1 h2
    show ((flat2 l).drop (i * 2)).take 2 = _
    rw [List.drop_eq_getElem_cons l1.1, l1.2, List.drop_eq_getElem_cons l2.1, l2.2]; rfl⟩ (own_blk h)
theorem own_grid {B : Nat} {v : Value} {l : List (List Int)} {w : World} (h : OwnGrid B v l w) : Rep (fun b => B ≤ b) w (.sl (.sl .int)) l [v] := by
  obtain ⟨g, rs, rfl, hB, ho, hr⟩ := h
  refine row_rep (t := .sl .int) (xs := rs) ho ⟨by rw [hr.1]; simp [Ty.n], fun i y hy => ?_⟩ (own_blk ho)
  obtain ⟨rv, hrv⟩ : ∃ rv, rs[i]? = some rv := ⟨_, List.getElem?_eq_getElem (by rw [hr.1]; exact (List.getElem?_eq_some_iff.1 hy).1)⟩
  have hrep := own_ints (hr.2.1 i rv y hrv hy)
  have l1 := List.getElem?_eq_some_iff.1 hrv
  simp only [Ty.n, Nat.mul_one]
  rw [List.drop_eq_getElem_cons l1.1, l1.2]
  exact Rep.weak (fun b hb => by omega) hrep
theorem arg1 {w : World} {x : AV} {vs : List Value} (hl : vs.length = 1) (hv : ∀ (i : Nat) (y : AV), [x][i]? = some y → ∃ v, vs[i]? = some v ∧ ArgRel w y v) : ∃ v, vs = [v] ∧ ArgRel w x v := by
  match vs, hl with
  | [v], _ => obtain ⟨u, hu, h⟩ := hv 0 x rfl; cases hu; exact ⟨_, rfl, h⟩
theorem arg2 {w : World} {x y : AV} {vs : List Value} (hl : vs.length = 2) (hv : ∀ (i : Nat) (z : AV), [x, y][i]? = some z → ∃ v, vs[i]? = some v ∧ ArgRel w z v) : ∃ v u, vs = [v, u] ∧ ArgRel w x v ∧ ArgRel w y u := by
  match vs, hl with
  | [v, u], _ =>
    obtain ⟨v', hv', h⟩ := hv 0 x rfl
    obtain ⟨u', hu', h'⟩ := hv 1 y rfl
    cases hv'; cases hu'
    exact ⟨_, _, rfl, h, h'⟩
theorem arg_graph {w : World} {g : Int × List (Int × Int)} {v : Value} (h : ArgRel w (.agg TG g) v) : ∃ a cap, v = graphV g.1 (.slice a g.2.length cap) ∧ PairsAt w a g.2 ∧ g.2.length ≤ 9223372036854775807 := by
  obtain ⟨cs, rfl, hr⟩ := h
  unfold Rep at hr
  obtain ⟨c1, c2, rfl, k1, k2⟩ := hr
  unfold Rep at k1
  subst k1
  have hlen := k2.length
  match c2, hlen with
  | [u], _ =>
    obtain ⟨a, cap, rfl, h1, h2⟩ := rep_pairs k2
    exact ⟨a, cap, rfl, h1, h2⟩
theorem arg_space {w : World} {x : List (List Int) × List (Int × Int)} {v : Value} (h : ArgRel w (.agg TS x) v) :
    ∃ a cap a' cap', v = spaceV (.slice a x.1.length cap) (.slice a' x.2.length cap') ∧ GridAt w a x.1 ∧ PairsAt w a' x.2 ∧ x.1.length ≤ 9223372036854775807 ∧ (∀ s ∈ x.1, s.length ≤ 9223372036854775807) ∧ x.2.length ≤ 9223372036854775807 := by
  obtain ⟨cs, rfl, hr⟩ := h
  unfold Rep at hr
  obtain ⟨c1, c2, rfl, k1, k2⟩ := hr
  have hlen1 := k1.length
  have hlen := k2.length
  match c1, hlen1, c2, hlen with
  | [p], _, [u], _ =>
    obtain ⟨a, cap, rfl, h1, h2, h3⟩ := rep_grid k1
    obtain ⟨a', cap', rfl, h4, h5⟩ := rep_pairs k2
    exact ⟨a, cap, a', cap', rfl, h1, h4, h2, h3, h5⟩
theorem post_one {w w' : World} {v : Value} {t : Ty} {x : t.den} (hb : Below w.heap.size w w') (h : IRel (fun b => w.heap.size ≤ b) w' t x v) : SpecPost [.im t x] w (.returned v) w' := ⟨v, rfl, hb, h⟩
theorem irel_bool {ok : Nat → Prop} {w : World} (b : Bool) : IRel ok w .bool b (.bool b) := by simp [IRel, Ty.isPr, Rep]
theorem irel_int {ok : Nat → Prop} {w : World} (x : Int) : IRel ok w .int x (.int .i64 x) := by simp [IRel, Ty.isPr, Rep]

theorem law_szGraph (g : Int × List (Int × Int)) (left : Int) (h0 : 0 ≤ left) (h1 : left ≤ 1048576) :
    Spec Try.prog 15 [.agg TG g, .int left] [.im .int (if (g.2.length : Int) ≤ left then left - g.2.length else -1)] := by
  refine ⟨by kernel_rfl, fun w vs hl hv => ?_⟩
  obtain ⟨v, u, rfl, ha, hu⟩ := arg2 hl hv
  obtain ⟨a, cap, rfl, h2, h3⟩ := arg_graph ha
  have hu' : u = .int .i64 left := hu
  subst hu'
  refine (szGraph w g.1 a g.2.length cap left h0 h1 h3).mono ?_
  rintro e w' ⟨rfl, hb⟩
  exact post_one hb (irel_int _)
theorem law_toGraph (g : Int × List (Int × Int)) (hl : g.2.length ≤ 1048576) : Spec Try.prog 17 [.agg TG g] [.im TG g] := by
  refine ⟨by kernel_rfl, fun w vs hlen hv => ?_⟩
  obtain ⟨v, rfl, ha⟩ := arg1 hlen hv
  obtain ⟨a, cap, rfl, h2, h3⟩ := arg_graph ha
  refine (toGraph w g.1 a g.2 cap h2 hl).mono ?_
  rintro e w' ⟨s, rfl, ho, hb⟩
  refine post_one hb ?_
  simp only [IRel, Ty.isPr, if_true]
  refine ⟨[.int .i64 g.1, s], rfl, ?_⟩
  unfold Rep
  exact ⟨[.int .i64 g.1], [s], rfl, by unfold Rep; rfl, own_pairs ho⟩
theorem law_eqGraph (g : Int × List (Int × Int)) : Spec Try.prog 20 [.agg TG g, .agg TG g] [.im .bool true] := by
  refine ⟨by kernel_rfl, fun w vs hl hv => ?_⟩
  obtain ⟨v, u, rfl, ha, hu⟩ := arg2 hl hv
  obtain ⟨a, cap, rfl, h2, h3⟩ := arg_graph ha
  obtain ⟨a', cap', rfl, h2', h3'⟩ := arg_graph hu
  refine (eqGraph w g.1 a a' g.2 cap cap' h2 h2' h3).mono ?_
  rintro e w' ⟨rfl, hb⟩
  exact post_one hb (irel_bool _)
end Go.Proofs.Ythogfineaeklpaa.Abs
/- Spaces and slices of numbers: the laws' helpers, as contracts. -/
namespace Go.Proofs.Ythogfineaeklpaa.Abs
open Go.RowKit
set_option linter.unusedVariables false
set_option linter.unusedSimpArgs false
set_option maxHeartbeats 4000000

theorem arg_ints {w : World} {l : List Int} {v : Value} (h : ArgRel w (.sl .int l) v) : ∃ a cap, v = .slice a l.length cap ∧ IntsAt w a l ∧ l.length ≤ 9223372036854775807 := rep_ints h
theorem law_szIntA2S (l : List (Int × Int)) (left : Int) (h0 : 0 ≤ left) (h1 : left ≤ 1048576) :
    Spec Try.prog 48 [.sl TP l, .int left] [.im .int (if (l.length : Int) ≤ left then left - l.length else -1)] := by
  refine ⟨by kernel_rfl, fun w vs hl hv => ?_⟩
  obtain ⟨v, u, rfl, ha, hu⟩ := arg2 hl hv
  obtain ⟨a, cap, rfl, h2, h3⟩ := rep_pairs ha
  have hu' : u = .int .i64 left := hu
  subst hu'
  refine (szPairs w a l.length cap left h0 h1 h3).mono ?_
  rintro e w' ⟨rfl, rfl⟩
  exact post_one (Below.refl _ _) (irel_int _)
theorem law_toIntS (l : List Int) (hl : l.length ≤ 1048576) : Spec Try.prog 18 [.sl .int l] [.im (.sl .int) l] := by
  refine ⟨by kernel_rfl, fun w vs hlen hv => ?_⟩
  obtain ⟨v, rfl, ha⟩ := arg1 hlen hv
  obtain ⟨a, cap, rfl, h2, h3⟩ := arg_ints ha
  refine (copyInts w a l cap h2 hl).mono ?_
  rintro e w' ⟨s, rfl, ho, hb⟩
  refine post_one hb ?_
  simp only [IRel, Ty.isPr]
  exact own_ints ho
theorem law_eqIntS (l : List Int) : Spec Try.prog 21 [.sl .int l, .sl .int l] [.im .bool true] := by
  refine ⟨by kernel_rfl, fun w vs hl hv => ?_⟩
  obtain ⟨v, u, rfl, ha, hu⟩ := arg2 hl hv
  obtain ⟨a, cap, rfl, h2, h3⟩ := arg_ints ha
  obtain ⟨a', cap', rfl, h2', h3'⟩ := arg_ints hu
  refine (eqInts w a a' l cap cap' h2 h2' h3).mono ?_
  rintro e w' ⟨rfl, hb⟩
  exact post_one hb (irel_bool _)
def rowsLeft : List (List Int) → Int → Int
  | [], r => r
  | x :: l, r => if (x.length : Int) ≤ r then rowsLeft l (r - x.length) else -1
theorem rowsLeft_le {l : List (List Int)} {r : Int} (h : 0 ≤ r) : rowsLeft l r = -1 ∨ 0 ≤ rowsLeft l r ∧ rowsLeft l r ≤ r ∧ ∀ s ∈ l, (s.length : Int) ≤ r := by
  induction l generalizing r with
  | nil => exact .inr ⟨h, Int.le_refl _, fun s hs => by simp at hs⟩
  | cons x l ih =>
    unfold rowsLeft
    by_cases hx : (x.length : Int) ≤ r
    · rw [if_pos hx]
      rcases ih (r := r - x.length) (by omega) with h1 | ⟨h1, h2, h3⟩
      · exact .inl h1
      · refine .inr ⟨h1, by omega, fun s hs => ?_⟩
        rcases List.mem_cons.1 hs with rfl | hs
        · exact hx
        · have := h3 s hs; omega
    · rw [if_neg hx]; exact .inl rfl
def gridLeft (l : List (List Int)) (left : Int) : Int := if (l.length : Int) ≤ left then rowsLeft l (left - l.length) else -1
theorem gridLeft_le {l : List (List Int)} {r : Int} (h : 0 ≤ r) : gridLeft l r = -1 ∨ 0 ≤ gridLeft l r ∧ gridLeft l r + l.length ≤ r ∧ ∀ s ∈ l, (s.length : Int) ≤ r := by
  unfold gridLeft
  by_cases hx : (l.length : Int) ≤ r
  · rw [if_pos hx]
    rcases rowsLeft_le (l := l) (r := r - l.length) (by omega) with h1 | ⟨h1, h2, h3⟩
    · exact .inl h1
    · exact .inr ⟨h1, by omega, fun s hs => by have := h3 s hs; omega⟩
  · rw [if_neg hx]; exact .inl rfl
def gridSt (l : List (List Int)) (k : Nat) (r : Int) : AS := ⟨(.sl (.sl .int) l :: .int r :: .junk :: .junk :: .int 0 :: .int (k : Int) :: .junk :: .junk :: .junk :: .junk :: .junk :: .junk :: .junk :: .junk :: .junk :: .junk :: .junk :: .junk :: .junk :: .junk :: .junk :: .junk :: .junk :: .junk :: .junk :: .junk :: .junk :: []), []⟩
def spaceLeft (l : List (List Int)) (m : List (Int × Int)) (left : Int) : Int :=
  if gridLeft l left < 0 then -1 else if (m.length : Int) ≤ gridLeft l left then gridLeft l left - m.length else -1
/-- What the size that is left says of the parts. -/
theorem spaceLeft_le {l : List (List Int)} {m : List (Int × Int)} {left : Int} (h : 0 ≤ left) : spaceLeft l m left = -1 ∨ 0 ≤ spaceLeft l m left ∧ (l.length : Int) ≤ left ∧ (∀ s ∈ l, (s.length : Int) ≤ left) ∧ (m.length : Int) ≤ left := by
  unfold spaceLeft
  rcases gridLeft_le (l := l) (r := left) h with h1 | ⟨h1, h2, h3⟩
  · rw [h1]; exact .inl rfl
  · rw [if_neg (by omega)]
    by_cases hm : (m.length : Int) ≤ gridLeft l left
    · rw [if_pos hm]; exact .inr ⟨by omega, by omega, h3, by omega⟩
    · rw [if_neg hm]; exact .inl rfl
end Go.Proofs.Ythogfineaeklpaa.Abs

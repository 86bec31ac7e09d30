/- Abs15, Abs16, Abs17, Abs18, Abs19, Tab, Pairs, Pairs2, Pairs3, Pairs4, Pairs5, Ints, IntMarks, PairMarks, Graph, Grid, GridCopy, Space, SpaceCopy, Bridge, Bridge2, in one text. -/
import Derived.Test.YtlfdimhnielleaaQaVPolygonSpace
import Derived.ChangeOld
import Derived.WideShapes
import Derived.Test.YtlfdimhnielleaaProg
import Derived.WalkKit
import Derived.WalkLawsBesides
import Derived.Below
import Derived.OwnWalk
import Derived.Maps.AppendAt
import Derived.WalkSpells
import Derived.Lib.Hide
import Derived.Deep.QuietTactic
import Derived.BigQuiet
import Derived.Outline
import Derived.Laws.Rows
import Derived.Lib.QuietBelow
/- Steps for the walk. -/
namespace Go.Proofs.Ytlfdimhnielleaa.Abs
open Go.RowKit
set_option linter.unusedVariables false
/-- The same, as a word that nothing looks into. -/
structure Seqs (P : Program) (ops : List Oper) (Q : AS → Prop) (l : List Oper) (S : AS) : Prop where
  out : aseq P ops Q l S
structure Quis (P : Program) (ops : List Oper) (Q : AS → Prop) (l : List Oper) (S : AS) : Prop where
  out : aqui P ops Q l S
structure W (P : Program) (c : Code) (Q : AX → AS → Prop) (S : AS) : Prop where
  out : AWp P c Q S
section
variable {P : Program} {Q : AS → Prop} {S : AS} {ops r : List Oper} {o : Oper}
/-- A call by what is known of the function. -/
theorem call_q {c : Call} {fo : Operand} {f : FuncId} {args : List AV} {res : List Res} (hop : o.op = .call c) (hc : c.callee = .value fo) (hf : S.ev fo = .fn f []) (hs : Spec P f args res)
    (ha : argsOk S (c.args.toList.map S.ev) args) : qcall P S o (resAV res) := by
  unfold qcall
  rw [hop]
  simp only [hc, hf]
  exact ⟨args, res, ha, by simpa using hs, rfl⟩
end
section
variable {P : Program} {Q : AX → AS → Prop} {S : AS}
theorem W.len {c : Code} (t : Tmp) {tt : Ty} {l : List tt.den} (ht : S.tm[t]? = some (.sl tt l)) (h : l.length ≤ 9223372036854775807 → W P c Q S) : W P c Q S := by
  refine ⟨fun w0 a w val hR => ?_⟩
  obtain ⟨u, _, hu⟩ := hR.getTmp ht
  have hu' : Rep _ w (.sl tt) l [u] := hu
  unfold Rep at hu'
  obtain ⟨_, _, _, _, h3, _⟩ := hu'
  exact (h (by unfold maxLen at h3; omega)).out w0 a w val hR
theorem W.skip (h : Q .normal S) : W P .skip Q S := ⟨AWp.skip h⟩
theorem W.exit {id : Nat} (h : Q (.exit id) S) : W P (.exit id) Q S := ⟨AWp.exit h⟩
theorem W.ret (h : Q .ret S) : W P .ret Q S := ⟨AWp.ret h⟩
theorem W.label {l : Nat} (h : Q .normal S) : W P (.label l) Q S := ⟨AWp.label h⟩
theorem W.seq {x y : Code} (h : ∀ K : AS → Prop, (∀ S', W P y Q S' → K S') → W P x (AX.seqd K Q) S) : W P (.seq x y) Q S := ⟨AWp.seq fun K hK => (h K fun S' h' => hK S' h'.out).out⟩
theorem W.cond {c : Operand} {x y : Code} (t : Bool) (hc : S.ev c = .bool t) (h1 : t = true → W P x Q S) (h2 : t = false → W P y Q S) : W P (.cond c x y) Q S := by
  cases t
  · exact ⟨AWp.cond_f hc (h2 rfl).out⟩
  · exact ⟨AWp.cond_t hc (h1 rfl).out⟩
theorem W.cond_t {c : Operand} {x y : Code} (hc : S.ev c = .bool true) (h : W P x Q S) : W P (.cond c x y) Q S := ⟨AWp.cond_t hc h.out⟩
theorem W.cond_f {c : Operand} {x y : Code} (hc : S.ev c = .bool false) (h : W P y Q S) : W P (.cond c x y) Q S := ⟨AWp.cond_f hc h.out⟩
theorem W.block {id : Nat} {c : Code} (h : W P c (AX.blk id Q) S) : W P (.block id c) Q S := ⟨AWp.block h.out⟩
theorem W.region {id : Nat} {l : List Oper} (h : Seqs P l (Q .normal) l S) : W P (.region id l.toArray false) Q S := ⟨AWp.region h.out⟩
theorem W.any {id : Nat} {l : List Oper} (hm : P.follows .mixedOrders = true) (hB : anyB l.toArray = true) (h : Quis P l (Q .normal) l S) : W P (.region id l.toArray true) Q S := ⟨AWp.any hm hB h.out⟩
theorem W.tail {id : Nat} {l : List Oper} (n : Nat) (hm : P.follows .mixedOrders = true) (hB : tailB l.toArray n = true) (h : Quis P l (Seqs P l (Q .normal) (l.drop n)) (l.take n) S) : W P (.region id l.toArray true) Q S := by
  refine ⟨AWp.tail n hm hB ?_⟩
  have mono : ∀ {Q1 Q2 : AS → Prop} (hq : ∀ S, Q1 S → Q2 S) (r : List Oper) (S : AS), aqui P l Q1 r S → aqui P l Q2 r S := by
    intro Q1 Q2 hq r
    induction r with
    | nil => exact fun S h => hq S h
    | cons o r ih =>
      intro S h
      unfold aqui at h ⊢
      cases hg : gd S l o with
      | none => rw [hg] at h; exact h
      | some b =>
        rw [hg] at h
        cases b
        · exact ih _ h
        · obtain ⟨v, h1, h2⟩ := h; exact ⟨v, h1, ih _ h2⟩
  exact mono (fun S h => h.out) _ _ h.out
theorem W.weak {c : Code} {S' : AS} (σ : List Nat) (hw : Weak σ S S') (h : W P c Q S') : W P c Q S := ⟨AWp.weak σ hw h.out⟩
theorem W.loop {c : Code} {X : Type} (st : X → AS) (m : X → Nat) (x0 : X) (σ : List Nat) (hw : Weak σ S (st x0))
    (round : ∀ x, W P c (AX.seqd (fun S' => ∃ y σ, m y < m x ∧ Weak σ S' (st y)) Q) (st x)) : W P (.loop c) Q S := ⟨AWp.loop st m x0 σ hw fun x => (round x).out⟩
theorem W.fn2 {f : FuncId} {fn : Func} {c : Code} {args : List AV} {t u : Tmp} {r1 r2 : Res} (hf : P.funcs[f]? = some fn) (hb : fn.body = some c) (hname : (fn.name != "runtime.NumGoroutine") = true) (hnt : args.length ≤ fn.ntmps)
    (hres : fn.results = #[.tmp t, .tmp u])
    (h : W P c (fun e S => (e = .normal ∨ e = .ret) ∧ resV S (S.tm.getD t .undef) r1 ∧ resV S (S.tm.getD u .undef) r2 ∧ (∀ n, S.tm.getD t .undef = .ref n → S.tm.getD u .undef ≠ .ref n)) ⟨args ++ List.replicate (fn.ntmps - args.length) .undef, []⟩) :
    Spec P f args [r1, r2] := Spec.of2 hf hb hname hnt hres h.out
end
end Go.Proofs.Ytlfdimhnielleaa.Abs
/- A variable that is written no more. -/
namespace Go.Proofs.Ytlfdimhnielleaa.Abs
open Go.RowKit
set_option linter.unusedVariables false

def AV.ice (n : Nat) (t : Ty) (d : t.den) : AV → AV
  | .ptr m i => if m = n then (if i = 0 then .iptr t d else .junk) else .ptr m i
  | x => x
def AV.icy (n : Nat) : AV → Bool
  | .ptr m _ => m != n
  | _ => true
def AS.freeze (S : AS) (n : Nat) (t : Ty) (d : t.den) : AS := ⟨S.tm.map (AV.ice n t d), S.H.set n none⟩
section
variable {P : Program} {w0 w : World} {S : AS} {a : Act} {val : Nat → Value}
theorem Rl.freeze (hR : Rl w0 S a w val) {n : Nat} {e : TypeId} {cs : List AV} {t : Ty} {d : t.den} (hH : S.H[n]? = some (some (.box e cs))) (hp : pack t cs = some (d, [])) : Rl w0 (S.freeze n t d) a w val := by
  have hk : ∀ b, okB S.H val b → okB (S.H.set n none) val b := fun b hb m C hC hg => by
    rcases get_set hC with ⟨_, h⟩ | ⟨_, h⟩
    · cases h
    · exact hb m C h hg
  have K : Keep (okB S.H val) (okB (S.H.set n none) val) w w S.H.length (S.H.set n none).length val val := ⟨Nat.le_refl _, fun b hb _ => ⟨hk b hb, rfl⟩, by simp, fun _ _ => rfl⟩
  obtain ⟨g, cur, h1, h2, h3, h4, h5⟩ := hR.heap n _ hH
  have hrep : Rep (okB (S.H.set n none) val) w t d cur.toList := by
    refine (pack_all (ok := okB S.H val) (N := S.H.length) (val := val) hp (by simpa using h4.symm) fun i c hc => ?_).weak hk
    obtain ⟨u, hu, _, hv⟩ := h5 i c hc
    exact ⟨u, by simpa using hu, hv⟩
  have hg : okB (S.H.set n none) val g := fun m C hC hgm => by
    rcases get_set hC with ⟨_, h⟩ | ⟨hne, h⟩
    · cases h
    · exact hne (hR.apart m n C _ g h hH hgm (by rw [h1]; rfl))
  have hP : PRel (okB (S.H.set n none) val) w t d (.pointer (some ⟨g, 0, none⟩)) := ⟨g, 0, cur.toList, rfl, hg, (Array.getElem?_eq_some_iff.1 h3).1, hrep, fun j u hu => by
    simp only [World.cell?, h3]
    simpa using hu⟩
  refine ⟨hR.below, by simp [AS.freeze, hR.len], hR.defers, fun u => ?_, fun m C hC => ?_, fun m k C D q hC hD => ?_⟩
  · have hu := hR.tmps u
    rw [List.getD_eq_getElem?_getD] at hu ⊢
    simp only [AS.freeze, List.getElem?_map]
    cases hx : S.tm[u]? with
    | none => rw [hx] at hu; exact hu
    | some x =>
      rw [hx] at hu
      simp only [Option.map_some, Option.getD_some] at hu ⊢
      cases x with
      | ptr m i =>
        unfold AV.ice
        by_cases hm : m = n
        · subst hm
          by_cases hi : i = 0
          · subst hi
            simp only [if_true]
            obtain ⟨_, g', k1, k2⟩ := hu
            rw [h1] at k1
            cases k1
            rw [k2]
            exact hP
          · simp only [if_true, if_neg hi]; trivial
        · simp only [if_neg hm]
          exact hu.keep K
      | int x => exact hu
      | bool x => exact hu
      | str x => exact hu
      | u8 x => exact hu
      | u64 x => exact hu
      | sl t l => exact hu.keep K
      | agg t x => exact hu.keep K
      | ref m => exact hu.keep K
      | eptr m i k => exact hu.keep K
      | iptr t x => exact hu.keep K
      | tup l => exact hu.keep K
      | fn f c => exact hu.keep K
      | ifn f c => exact hu.keep K
      | fn2 g f c => exact hu.keep K
      | nilsl => exact hu
      | undef => exact hu
      | junk => trivial
  · rcases get_set hC with ⟨_, h⟩ | ⟨_, h⟩
    · cases h
    · exact (hR.heap m C h).keep K (lt_of_some h) fun g _ => rfl
  · have f : ∀ {x : Nat} {X : Blk}, (S.H.set n none)[x]? = some (some X) → S.H[x]? = some (some X) := fun {x X} hX => by
      rcases get_set hX with ⟨_, h⟩ | ⟨_, h⟩
      · cases h
      · exact h
    exact hR.apart m k C D q (f hC) (f hD)
theorem W.freeze {c : Code} {Q : AX → AS → Prop} (n : Nat) {e : TypeId} {cs : List AV} {t : Ty} {d : t.den} (hH : S.H[n]? = some (some (.box e cs))) (hp : pack t cs = some (d, [])) (h : W P c Q (S.freeze n t d)) : W P c Q S :=
  ⟨fun w0 a w val hR => h.out w0 a w val (hR.freeze hH hp)⟩
end
end Go.Proofs.Ytlfdimhnielleaa.Abs
/- What a law's arguments are: whatever reads as data reads as a value of a Lean type. -/
namespace Go.Proofs.Ytlfdimhnielleaa.Abs
open Go.RowKit
set_option linter.unusedVariables false

/-- A type of the program is laid as this one. -/
def isTy (P : Program) : Ty → TypeId → Prop
  | .int, t => P.underlying t = some (.int .i64)
  | .bool, t => P.underlying t = some .bool
  | .str, t => P.underlying t = some .string
  | .u64, _ => False
  | .ar _ _, _ => False
  | .sl a, t => ∃ e, P.underlying t = some (.slice e) ∧ P.cellsOf e = a.n ∧ isTy P a e
  | .pr a b, t => (∃ e, P.underlying t = some (.array 2 e) ∧ P.cellsOf e = a.n ∧ P.cellsOf e = b.n ∧ isTy P a e ∧ isTy P b e) ∨
      (∃ f0 f1, P.underlying t = some (.struct #[f0, f1]) ∧ f0.offset = 0 ∧ f1.offset = a.n ∧ P.cellsOf f0.type = a.n ∧ P.cellsOf f1.type = b.n ∧ isTy P a f0.type ∧ isTy P b f1.type)
section
variable {H : Type} {enc : TypeId × Value → H} {P : Program} {w : World} {base : Nat} {spare : Nat → Bool} {held : Bool}
end
end Go.Proofs.Ytlfdimhnielleaa.Abs
/- Calls of closures. -/
namespace Go.Proofs.Ytlfdimhnielleaa.Abs
open Go.RowKit
set_option linter.unusedVariables false
section
variable {P : Program} {Q : AS → Prop} {S : AS} {ops r : List Oper} {o : Oper}
end
end Go.Proofs.Ytlfdimhnielleaa.Abs
/- A variable that holds a function and is written no more; calls of closures over it. -/
namespace Go.Proofs.Ytlfdimhnielleaa.Abs
open Go.RowKit
set_option linter.unusedVariables false
def AV.iceF (n : Nat) (f : FuncId) (cap : List TV) : AV → AV
  | .ptr m i => if m = n then (if i = 0 then .ifn f cap else .junk) else .ptr m i
  | x => x
def AS.freezeF (S : AS) (n : Nat) (f : FuncId) (cap : List TV) : AS := ⟨S.tm.map (AV.iceF n f cap), S.H.set n none⟩
section
variable {P : Program} {w0 w : World} {S : AS} {a : Act} {val : Nat → Value}
theorem Rl.freezeF (hR : Rl w0 S a w val) {n : Nat} {e : TypeId} {f : FuncId} {cap : List TV} (hH : S.H[n]? = some (some (.box e [.fn f cap]))) : Rl w0 (S.freezeF n f cap) a w val := by
  have hk : ∀ b, okB S.H val b → okB (S.H.set n none) val b := fun b hb m C hC hg => by
    rcases get_set hC with ⟨_, h⟩ | ⟨_, h⟩
    · cases h
    · exact hb m C h hg
  have K : Keep (okB S.H val) (okB (S.H.set n none) val) w w S.H.length (S.H.set n none).length val val := ⟨Nat.le_refl _, fun b hb _ => ⟨hk b hb, rfl⟩, by simp, fun _ _ => rfl⟩
  obtain ⟨g, cur, h1, h2, h3, h4, h5⟩ := hR.heap n _ hH
  have hg : okB (S.H.set n none) val g := fun m C hC hgm => by
    rcases get_set hC with ⟨_, h⟩ | ⟨hne, h⟩
    · cases h
    · exact hne (hR.apart m n C _ g h hH hgm (by rw [h1]; rfl))
  have hP : IFRel (okB (S.H.set n none) val) w f cap (.pointer (some ⟨g, 0, none⟩)) := by
    obtain ⟨u, hu, _, hv⟩ := h5 0 (.fn f cap) rfl
    have hv' : VRel (okB (S.H.set n none) val) w (S.H.set n none).length val (.fn f cap) u := hv.keep K
    obtain ⟨vs, e1, e2, e3⟩ := hv'
    exact ⟨g, u, rfl, hg, (Array.getElem?_eq_some_iff.1 h3).1, by simp [World.cell?, h3, hu], vs, e1, e2, e3⟩
  refine ⟨hR.below, by simp [AS.freezeF, hR.len], hR.defers, fun u => ?_, fun m C hC => ?_, fun m k C D q hC hD => ?_⟩
  · have hu := hR.tmps u
    rw [List.getD_eq_getElem?_getD] at hu ⊢
    simp only [AS.freezeF, List.getElem?_map]
    cases hx : S.tm[u]? with
    | none => rw [hx] at hu; exact hu
    | some x =>
      rw [hx] at hu
      simp only [Option.map_some, Option.getD_some] at hu ⊢
      cases x with
      | ptr m i =>
        unfold AV.iceF
        by_cases hm : m = n
        · subst hm
          by_cases hi : i = 0
          · subst hi
            simp only [if_true]
            obtain ⟨_, g', k1, k2⟩ := hu
            rw [h1] at k1
            cases k1
            rw [k2]
            exact hP
          · simp only [if_true, if_neg hi]; trivial
        · simp only [if_neg hm]
          exact hu.keep K
      | int x => exact hu
      | bool x => exact hu
      | str x => exact hu
      | u8 x => exact hu
      | u64 x => exact hu
      | sl t l => exact hu.keep K
      | agg t x => exact hu.keep K
      | ref m => exact hu.keep K
      | eptr m i k => exact hu.keep K
      | iptr t x => exact hu.keep K
      | tup l => exact hu.keep K
      | fn f c => exact hu.keep K
      | ifn f c => exact hu.keep K
      | fn2 g f c => exact hu.keep K
      | nilsl => exact hu
      | undef => exact hu
      | junk => trivial
  · rcases get_set hC with ⟨_, h⟩ | ⟨_, h⟩
    · cases h
    · exact (hR.heap m C h).keep K (lt_of_some h) fun g _ => rfl
  · have f : ∀ {x : Nat} {X : Blk}, (S.H.set n none)[x]? = some (some X) → S.H[x]? = some (some X) := fun {x X} hX => by
      rcases get_set hX with ⟨_, h⟩ | ⟨_, h⟩
      · cases h
      · exact h
    exact hR.apart m k C D q (f hC) (f hD)
theorem W.freezeF {c : Code} {Q : AX → AS → Prop} (n : Nat) {e : TypeId} {f : FuncId} {cap : List TV} (hH : S.H[n]? = some (some (.box e [.fn f cap]))) (h : W P c Q (S.freezeF n f cap)) : W P c Q S :=
  ⟨fun w0 a w val hR => h.out w0 a w val (hR.freezeF hH)⟩
end
section
variable {P : Program} {Q : AS → Prop} {S : AS} {ops r : List Oper} {o : Oper}
end
end Go.Proofs.Ytlfdimhnielleaa.Abs
/- The table of types, as the rules ask of it. -/
namespace Go.Proofs.Ytlfdimhnielleaa.Abs
theorem mixed : Try.prog.follows .mixedOrders = true := by kernel_rfl
end Go.Proofs.Ytlfdimhnielleaa.Abs
/- Pairs of numbers and slices of them: what came in, what the call made; the walks of the laws' helpers over them. -/
namespace Go.Proofs.Ytlfdimhnielleaa
open Go.RowKit
set_option linter.unusedVariables false

abbrev two (p : Int × Int) : Value := .agg #[.int .i64 p.1, .int .i64 p.2]
def ofTwo (x y : Int) : Obj := .cells #[.int .i64 x, .int .i64 y] 85
end Go.Proofs.Ytlfdimhnielleaa
/- Slices of pairs: what came in, what the call made. -/
namespace Go.Proofs.Ytlfdimhnielleaa
open Go.RowKit
set_option linter.unusedVariables false

/-- The pairs of a slice lie at its address, two cells each. -/
def PairsAt (w : World) (a : Option Addr) (l : List (Int × Int)) : Prop :=
  l = [] ∨ ∃ b o, a = some ⟨b, o, none⟩ ∧ b < w.heap.size ∧ ∀ i p, l[i]? = some p → w.cell? ⟨b, o + i * 2, none⟩ = some (.int .i64 p.1) ∧ w.cell? ⟨b, o + i * 2 + 1, none⟩ = some (.int .i64 p.2)
theorem PairsAt.below {w w' : World} {a : Option Addr} {l : List (Int × Int)} {B : Nat} (h : PairsAt w a l) (hb : Below B w w') (hB : w.heap.size ≤ B) : PairsAt w' a l := by
  rcases h with h | ⟨b, o, rfl, h1, h2⟩
  · exact .inl h
  · exact .inr ⟨b, o, rfl, Nat.lt_of_lt_of_le h1 hb.size, fun i x hx => ⟨(hb.cell (p := ⟨b, o + i * 2, none⟩) (Nat.lt_of_lt_of_le h1 hB)).trans (h2 i x hx).1, (hb.cell (p := ⟨b, o + i * 2 + 1, none⟩) (Nat.lt_of_lt_of_le h1 hB)).trans (h2 i x hx).2⟩⟩
theorem PairsAt.cellAt {w : World} {a : Option Addr} {l : List (Int × Int)} (h : PairsAt w a l) {k : Nat} {p : Int × Int} (hx : l[k]? = some p) :
    ∃ b o, a = some ⟨b, o, none⟩ ∧ b < w.heap.size ∧ w.cell? ⟨b, o + k * 2, none⟩ = some (.int .i64 p.1) ∧ w.cell? ⟨b, o + k * 2 + 1, none⟩ = some (.int .i64 p.2) := by
  rcases h with rfl | ⟨b, o, h1, h2, h3⟩
  · simp at hx
  · exact ⟨b, o, h1, h2, h3 k p hx⟩

def flat2 (l : List (Int × Int)) : List Value := l.flatMap fun p => [.int .i64 p.1, .int .i64 p.2]
theorem flat2_length (l : List (Int × Int)) : (flat2 l).length = l.length * 2 := by
  induction l with
  | nil => rfl
  | cons p l ih => show ([_, _] ++ flat2 l).length = _; rw [List.length_append, ih]; simp; omega
theorem flat2_get (l : List (Int × Int)) (k : Nat) (p : Int × Int) (h : l[k]? = some p) : (flat2 l)[k * 2]? = some (.int .i64 p.1) ∧ (flat2 l)[k * 2 + 1]? = some (.int .i64 p.2) := by
  induction l generalizing k with
  | nil => simp at h
  | cons q l ih =>
    show ([_, _] ++ flat2 l)[k * 2]? = _ ∧ ([_, _] ++ flat2 l)[k * 2 + 1]? = _
    cases k with
    | zero => simp at h; subst h; exact ⟨rfl, rfl⟩
    | succ k =>
      have := ih k (by simpa using h)
      rw [List.getElem?_append_right (by simp; omega), List.getElem?_append_right (by simp; omega)]
      have e1 : (k + 1) * 2 - [Value.int .i64 q.1, Value.int .i64 q.2].length = k * 2 := by simp; omega
      have e2 : (k + 1) * 2 + 1 - [Value.int .i64 q.1, Value.int .i64 q.2].length = k * 2 + 1 := by simp; omega
      rw [e1, e2]; exact this
/-- A slice of pairs of the call's own. -/
def OwnPairs (B : Nat) (v : Value) (l : List (Int × Int)) (w : World) : Prop := w.ownsRow B 85 2 v l.length (flat2 l)
theorem OwnPairs.at {B : Nat} {v : Value} {l : List (Int × Int)} {w : World} (h : OwnPairs B v l w) : ∃ a cap, v = .slice a l.length cap ∧ PairsAt w a l ∧ l.length ≤ cap := by
  rcases h.2 with ⟨h1, h2⟩ | ⟨g, cap, cur, hv, hg, hh, hn, hc, hs, ht⟩
  · exact ⟨none, 0, by rw [h1, h2], .inl (List.eq_nil_of_length_eq_zero h2), by omega⟩
  · refine ⟨some ⟨g, 0, none⟩, cap, hv, .inr ⟨g, 0, rfl, ?_, fun i x hx => ?_⟩, hn⟩
    · rcases Nat.lt_or_ge g w.heap.size with h' | h'
      · exact h'
      · rw [Array.getElem?_eq_none h'] at hh; cases hh
    · have f := flat2_get l i x hx
      have c1 := h.cells (g := g) (by rw [hv]; rfl) (i * 2) _ f.1
      have c2 := h.cells (g := g) (by rw [hv]; rfl) (i * 2 + 1) _ f.2
      have e : ∀ j, (⟨g, 0, none⟩ : Addr).add j = ⟨g, 0 + j, none⟩ := by
        intro j
        by_cases h : j = 0
        · subst h; simp [Addr.add]
        · simp [Addr.add, h]
      rw [e] at c1 c2
      exact ⟨c1, c2⟩
end Go.Proofs.Ytlfdimhnielleaa
/- A slice of pairs is copied. -/
namespace Go.Proofs.Ytlfdimhnielleaa
open Go.RowKit
set_option linter.unusedVariables false

def pfill (l : List (Int × Int)) (k : Nat) : List (Int × Int) := l.take k ++ List.replicate (l.length - k) (0, 0)
def PCopyEnd (l : List (Int × Int)) (w : World) (e : Ending) (w' : World) : Prop := ∃ v, e = .returned v ∧ OwnPairs w.heap.size v l w' ∧ Below w.heap.size w w'
end Go.Proofs.Ytlfdimhnielleaa
/- Pairs, and slices of pairs, compared. -/
namespace Go.Proofs.Ytlfdimhnielleaa
open Go.RowKit
set_option linter.unusedVariables false

set_option maxHeartbeats 1000000 in
theorem eqPair (w : World) (p q : Int × Int) :
    Calls Try.prog 65 #[two p, two q] w fun e w' => e = .returned (.bool (decide (p = q))) ∧ Below w.heap.size w w' := by
  obtain ⟨x, y⟩ := p
  obtain ⟨x', y'⟩ := q
  unfold two
  simp only
  have hb1 : Below w.heap.size w ((w.alloc (ofTwo x y)).alloc (ofTwo x' y')) := ((Below.refl _ _).alloc (Nat.le_refl _) _).alloc (by simp) _
  have F : Hid (((w.alloc (ofTwo x y)).alloc (ofTwo x' y')).cell? ⟨w.heap.size, 0, none⟩ = some (.int .i64 x) ∧ ((w.alloc (ofTwo x y)).alloc (ofTwo x' y')).cell? ⟨w.heap.size, 1, none⟩ = some (.int .i64 y) ∧
      ((w.alloc (ofTwo x y)).alloc (ofTwo x' y')).cell? ⟨w.heap.size + 1, 0, none⟩ = some (.int .i64 x') ∧ ((w.alloc (ofTwo x y)).alloc (ofTwo x' y')).cell? ⟨w.heap.size + 1, 1, none⟩ = some (.int .i64 y')) := by
    show _ ∧ _ ∧ _ ∧ _
    unfold ofTwo
    refine ⟨?_, ?_, ?_, ?_⟩ <;> simp
  go_enter Try.func65, Try.ntmps65
  go_wp2
  unfold ofTwo at F hb1
  generalize ((w.alloc (Obj.cells #[.int .i64 x, .int .i64 y] 85)).alloc (Obj.cells #[.int .i64 x', .int .i64 y'] 85)) = wb at *
  go_loopw [5] (fun i wr => Hid (∃ n, wr = wb.drewN n) ∧ (i = .int .i64 0 ∨ (i = .int .i64 1 ∧ Hid (x = x')) ∨ (i = .int .i64 2 ∧ Hid (x = x' ∧ y = y')))) (fun i _ => 2 - (intOf i).toNat)
  case atStart => exact ⟨⟨0, rfl⟩, .inl rfl⟩
  case round =>
    obtain ⟨HW, hrel⟩ := hrel
    have FF : wr.cell? ⟨w.heap.size, 0, none⟩ = some (.int .i64 x) ∧ wr.cell? ⟨w.heap.size, 1, none⟩ = some (.int .i64 y) ∧
      wr.cell? ⟨w.heap.size + 1, 0, none⟩ = some (.int .i64 x') ∧ wr.cell? ⟨w.heap.size + 1, 1, none⟩ = some (.int .i64 y') := by
      obtain ⟨n, hw⟩ := HW.out
      rw [hw]; exact F.out
    obtain ⟨F1, F2, F3, F4⟩ := FF
    have HB : Hid (∀ q, Below w.heap.size w (wr.drewN q)) := fun q => by
      obtain ⟨n, hw⟩ := HW.out
      rw [hw]; exact ⟨hb1.os, hb1.tape, hb1.output, hb1.size, hb1.block⟩
    have HD : Hid (∀ q, ∃ n, wr.drewN q = wb.drewN n) := fun q => by
      obtain ⟨n, hw⟩ := HW.out
      exact ⟨n + q, by rw [hw]; simp [World.drewN, Nat.add_assoc]⟩
    clear HW F hb1
    rcases hrel with rfl | ⟨rfl, E⟩ | ⟨rfl, E⟩
    · by_cases e : x = x'
      · subst e
        go_wp2
        go_quiet (fail)
        go_wp2
        go_roundw
        case rel => exact ⟨HD.out _, .inr (.inl ⟨rfl, Lib.hid trivial⟩)⟩
        case measure => simp [intOf]
      · go_wp2
        go_quiet (fail)
        go_wp2
        go_ret
        exact ⟨by simp [e], HB.out _⟩
    · have ex := E.out
      subst ex
      clear E
      by_cases e : y = y'
      · subst e
        go_wp2
        go_quiet (fail)
        go_wp2
        go_roundw
        case rel => exact ⟨HD.out _, .inr (.inr ⟨rfl, Lib.hid (by simp)⟩)⟩
        case measure => simp [intOf]
      · go_wp2
        go_quiet (fail)
        go_wp2
        go_ret
        exact ⟨by simp [e], HB.out _⟩
    · obtain ⟨ex, ey⟩ := E.out
      subst ex ey
      clear E
      go_wp2
      go_ret
      exact ⟨by simp, HB.out 0⟩
end Go.Proofs.Ytlfdimhnielleaa
/- Slices of pairs, and Graphs, compared with their like. -/
namespace Go.Proofs.Ytlfdimhnielleaa
open Go.RowKit
set_option linter.unusedVariables false

set_option maxHeartbeats 1000000 in
theorem eqPairs (w : World) (a1 a2 : Option Addr) (l : List (Int × Int)) (c1 c2 : Nat) (h1 : PairsAt w a1 l) (h2 : PairsAt w a2 l) (hl : l.length ≤ 9223372036854775807) :
    Calls Try.prog 35 #[.slice a1 l.length c1, .slice a2 l.length c2] w fun e w' => e = .returned (.bool true) ∧ Below w.heap.size w w' := by
  have H1 := Lib.hid h1
  have H2 := Lib.hid h2
  clear h1 h2
  go_enter Try.func35, Try.ntmps35
  go_wp2
  go_loopw [5] (fun i wr => ∃ k : Nat, k ≤ l.length ∧ i = .int .i64 k ∧ Below w.heap.size w wr) (fun i _ => l.length - (intOf i).toNat)
  case atStart => exact ⟨0, Nat.zero_le _, rfl, Below.refl _ _⟩
  case round =>
    obtain ⟨k, hk, rfl, hb⟩ := hrel
    by_cases hlt : k < l.length
    · obtain ⟨x, hx⟩ : ∃ x, l[k]? = some x := ⟨_, List.getElem?_eq_getElem hlt⟩
      obtain ⟨b1, o1, rfl, _, hp1, hq1⟩ := (H1.out.below hb (Nat.le_refl _)).cellAt hx
      obtain ⟨b2, o2, rfl, _, hp2, hq2⟩ := (H2.out.below hb (Nat.le_refl _)).cellAt hx
      have p1 := cell_regrown hp1
      have q1 := cell_regrown hq1
      have p2 := cell_regrown hp2
      have q2 := cell_regrown hq2
      have hk0 : (0 : Int) ≤ (k : Int) := by omega
      have hkl : (k : Int) < (l.length : Int) := by omega
      have cM := fun W => eqPair W x x
      simp only [decide_true] at cM
      obtain ⟨x0, x1⟩ := x
      unfold two at cM
      simp only at *
      clear hx hp1 hp2 hq1 hq2
      go_wp2_with fail
      refine wp_region_quiet_below (by kernel_rfl) (by kernel_rfl) ?_
      repeat (quiet_step ((go_at_call 65; exact Calls.regrown_of (cM _))))
      refine wpQuiet_nil ?_
      intro _ hw'
      obtain ⟨⟨dq, osq⟩, hw''⟩ := hw'
      subst hw''
      go_wp2
      go_roundw
      case rel => exact ⟨k + 1, by omega, by go_num, hb.trans ((below_regrown wr dq osq).mono hb.size)⟩
      case measure => simp [intOf]; omega
    · go_wp2
      go_ret
      exact ⟨rfl, hb⟩
end Go.Proofs.Ytlfdimhnielleaa
/- Slices of numbers: what came in, what the call made; the walks of the laws' helpers over them. -/
namespace Go.Proofs.Ytlfdimhnielleaa
open Go.RowKit
set_option linter.unusedVariables false

/-- The numbers of a slice lie at its address, one a cell. -/
def IntsAt (w : World) (a : Option Addr) (l : List Int) : Prop :=
  l = [] ∨ ∃ b o, a = some ⟨b, o, none⟩ ∧ b < w.heap.size ∧ ∀ i x, l[i]? = some x → w.cell? ⟨b, o + i, none⟩ = some (.int .i64 x)
theorem IntsAt.below {w w' : World} {a : Option Addr} {l : List Int} {B : Nat} (h : IntsAt w a l) (hb : Below B w w') (hB : w.heap.size ≤ B) : IntsAt w' a l := by
  rcases h with h | ⟨b, o, rfl, h1, h2⟩
  · exact .inl h
  · exact .inr ⟨b, o, rfl, Nat.lt_of_lt_of_le h1 hb.size, fun i x hx => (hb.cell (p := ⟨b, o + i, none⟩) (Nat.lt_of_lt_of_le h1 hB)).trans (h2 i x hx)⟩
theorem IntsAt.cellAt {w : World} {a : Option Addr} {l : List Int} (h : IntsAt w a l) {k : Nat} {x : Int} (hx : l[k]? = some x) :
    ∃ b o, a = some ⟨b, o, none⟩ ∧ b < w.heap.size ∧ w.cell? ⟨b, o + k, none⟩ = some (.int .i64 x) := by
  rcases h with rfl | ⟨b, o, h1, h2, h3⟩
  · simp at hx
  · exact ⟨b, o, h1, h2, h3 k x hx⟩
def vals (l : List Int) : List Value := l.map (Value.int .i64)
/-- A slice of numbers of the call's own. -/
def OwnInts (B : Nat) (v : Value) (l : List Int) (w : World) : Prop := w.ownsRow B 3 1 v l.length (vals l)
theorem addI (b o i : Nat) : (⟨b, o, none⟩ : Addr).add i = ⟨b, o + i, none⟩ := by
  by_cases h : i = 0
  · subst h; simp [Addr.add]
  · simp [Addr.add, h]
theorem OwnInts.at {B : Nat} {v : Value} {l : List Int} {w : World} (h : OwnInts B v l w) : ∃ a cap, v = .slice a l.length cap ∧ IntsAt w a l ∧ l.length ≤ cap := by
  rcases h.2 with ⟨h1, h2⟩ | ⟨g, cap, cur, hv, hg, hh, hn, hc, hs, ht⟩
  · exact ⟨none, 0, by rw [h1, h2], .inl (List.eq_nil_of_length_eq_zero h2), by omega⟩
  · refine ⟨some ⟨g, 0, none⟩, cap, hv, .inr ⟨g, 0, rfl, ?_, fun i x hx => ?_⟩, hn⟩
    · rcases Nat.lt_or_ge g w.heap.size with h' | h'
      · exact h'
      · rw [Array.getElem?_eq_none h'] at hh; cases hh
    · have := h.cells (g := g) (by rw [hv]; rfl) i (.int .i64 x) (by simp [vals, hx])
      rw [addI] at this
      exact this

def ifill (l : List Int) (k : Nat) : List Int := l.take k ++ List.replicate (l.length - k) 0
def ICopyEnd (l : List Int) (w : World) (e : Ending) (w' : World) : Prop := ∃ v, e = .returned v ∧ OwnInts w.heap.size v l w' ∧ Below w.heap.size w w'
set_option maxHeartbeats 1000000 in
theorem eqInts (w : World) (a1 a2 : Option Addr) (l : List Int) (c1 c2 : Nat) (h1 : IntsAt w a1 l) (h2 : IntsAt w a2 l) (hl : l.length ≤ 9223372036854775807) :
    Calls Try.prog 27 #[.slice a1 l.length c1, .slice a2 l.length c2] w fun e w' => e = .returned (.bool true) ∧ Below w.heap.size w w' := by
  have H1 := Lib.hid h1
  have H2 := Lib.hid h2
  clear h1 h2
  go_enter Try.func27, Try.ntmps27
  go_wp2
  go_loopw [5] (fun i wr => ∃ k : Nat, k ≤ l.length ∧ i = .int .i64 k ∧ Below w.heap.size w wr) (fun i _ => l.length - (intOf i).toNat)
  case atStart => exact ⟨0, Nat.zero_le _, rfl, Below.refl _ _⟩
  case round =>
    obtain ⟨k, hk, rfl, hb⟩ := hrel
    by_cases hlt : k < l.length
    · obtain ⟨x, hx⟩ : ∃ x, l[k]? = some x := ⟨_, List.getElem?_eq_getElem hlt⟩
      obtain ⟨b1, o1, rfl, _, hc1⟩ := (H1.out.below hb (Nat.le_refl _)).cellAt hx
      obtain ⟨b2, o2, rfl, _, hc2⟩ := (H2.out.below hb (Nat.le_refl _)).cellAt hx
      have hk0 : (0 : Int) ≤ (k : Int) := by omega
      have hkl : (k : Int) < (l.length : Int) := by omega
      clear hx
      go_wp2_with fail
      go_quiet (fail)
      go_wp2
      go_roundw
      case rel => exact ⟨k + 1, by omega, by go_num, Go.below_drewN hb nq⟩
      case measure => simp [intOf]; omega
    · go_wp2
      go_ret
      exact ⟨rfl, hb⟩
end Go.Proofs.Ytlfdimhnielleaa
/- The marks that the laws write into slices of numbers: written, and found again. -/
namespace Go.Proofs.Ytlfdimhnielleaa
open Go.RowKit
set_option linter.unusedVariables false

def marksI (k0 : Int) (n : Nat) : List Int := (List.range n).map fun i : Nat => k0 + (i : Int)
theorem marksI_length (k0 : Int) (n : Nat) : (marksI k0 n).length = n := by simp [marksI]
theorem marksI_get (k0 : Int) (n i : Nat) (h : i < n) : (marksI k0 n)[i]? = some (k0 + (i : Int)) := by simp [marksI, h]
def ihalf (k0 : Int) (l : List Int) (j : Nat) : List Int := (marksI k0 l.length).take j ++ l.drop j
theorem ihalf_get (k0 : Int) (l : List Int) (j : Nat) (x : Int) (h : l[j]? = some x) : (vals (ihalf k0 l j))[j]? = some (.int .i64 x) := by
  have hj := (List.getElem?_eq_some_iff.1 h).1
  unfold vals ihalf
  rw [List.getElem?_map, List.getElem?_append_right (by simp [marksI_length]; omega)]
  simp [marksI_length, Nat.min_eq_left (Nat.le_of_lt hj), List.getElem?_drop, h]
theorem ihalf_set (k0 : Int) (l : List Int) (j : Nat) (hj : j < l.length) : (vals (ihalf k0 l j)).set j (.int .i64 (k0 + (j : Int))) = vals (ihalf k0 l (j + 1)) := by
  unfold vals ihalf
  have hm := List.getElem?_eq_some_iff.1 (marksI_get k0 l.length j hj)
  have hlen : ((marksI k0 l.length).take j).length = j := by simp [marksI_length]; omega
  rw [← List.map_set, List.take_succ_eq_append_getElem hm.1, hm.2, List.set_append_right _ _ (by omega), hlen, Nat.sub_self, List.drop_eq_getElem_cons hj, List.set_cons_zero, List.append_assoc]
  rfl
theorem ihalf_zero (k0 : Int) (l : List Int) : ihalf k0 l 0 = l := by simp [ihalf]
theorem ihalf_end (k0 : Int) (l : List Int) : ihalf k0 l l.length = marksI k0 l.length := by
  unfold ihalf; rw [List.take_of_length_le (by rw [marksI_length]; exact Nat.le_refl _)]; simp
theorem grown_refl (w : World) (r : Option Nat) : w.grownBy w r := ⟨rfl, rfl, rfl, Nat.le_refl _, fun _ _ _ => rfl⟩
theorem grown_set {w w' : World} {g : Nat} (h : w.grownBy w' (some g)) (j : Nat) (v : Value) : w.grownBy (w'.setCell ⟨g, j, none⟩ v) (some g) :=
  ⟨h.os, h.tape, h.output, by simpa [World.setCell] using h.size, fun k hk hne => (Below.heap_setCell w' ⟨g, j, none⟩ v k (by rintro rfl; exact hne rfl)).trans (h.block k hk hne)⟩

end Go.Proofs.Ytlfdimhnielleaa
/- The marks that the laws write into slices of pairs: written, and found again. -/
namespace Go.Proofs.Ytlfdimhnielleaa
open Go.RowKit
set_option linter.unusedVariables false

def flatI (l : List (Int × Int)) : List Int := l.flatMap fun p => [p.1, p.2]
theorem flatI_vals (l : List (Int × Int)) : vals (flatI l) = flat2 l := by
  induction l with
  | nil => rfl
  | cons p l ih => show vals ([_, _] ++ flatI l) = [_, _] ++ flat2 l; rw [← ih]; rfl
theorem flatI_length (l : List (Int × Int)) : (flatI l).length = l.length * 2 := by
  have := congrArg List.length (flatI_vals l)
  rw [flat2_length] at this
  simpa [vals] using this
/-- A slice of pairs of the call's own that is marked. -/
def OwnPairMarks (B : Nat) (v : Value) (k0 : Int) (n : Nat) (w : World) : Prop := w.ownsRow B 85 2 v n (vals (marksI k0 (n * 2)))
/-- The marks lie at a slice's address. -/
def PairMarksAt (w : World) (a : Option Addr) (k0 : Int) (n : Nat) : Prop := n = 0 ∨ ∃ b o, a = some ⟨b, o, none⟩ ∧ b < w.heap.size ∧ ∀ j, j < n * 2 → w.cell? ⟨b, o + j, none⟩ = some (.int .i64 (k0 + (j : Int)))
theorem PairMarksAt.below {w w' : World} {a : Option Addr} {k0 : Int} {n : Nat} {B : Nat} (h : PairMarksAt w a k0 n) (hb : Below B w w') (hB : w.heap.size ≤ B) : PairMarksAt w' a k0 n := by
  rcases h with h | ⟨b, o, rfl, h1, h2⟩
  · exact .inl h
  · exact .inr ⟨b, o, rfl, Nat.lt_of_lt_of_le h1 hb.size, fun j hj => (hb.cell (p := ⟨b, o + j, none⟩) (Nat.lt_of_lt_of_le h1 hB)).trans (h2 j hj)⟩
theorem OwnPairMarks.at {B : Nat} {v : Value} {k0 : Int} {n : Nat} {w : World} (h : OwnPairMarks B v k0 n w) : ∃ a cap, v = .slice a n cap ∧ PairMarksAt w a k0 n ∧ n ≤ cap := by
  rcases h.2 with ⟨h1, h2⟩ | ⟨g, cap, cur, hv, hg, hh, hn, hc, hs, ht⟩
  · exact ⟨none, 0, by rw [h1, h2], .inl h2, by omega⟩
  · refine ⟨some ⟨g, 0, none⟩, cap, hv, .inr ⟨g, 0, rfl, ?_, fun j hj => ?_⟩, hn⟩
    · rcases Nat.lt_or_ge g w.heap.size with h' | h'
      · exact h'
      · rw [Array.getElem?_eq_none h'] at hh; cases hh
    · have := h.cells (g := g) (by rw [hv]; rfl) j (.int .i64 (k0 + (j : Int))) (by unfold vals; rw [List.getElem?_map, marksI_get k0 _ j hj]; rfl)
      rw [addI] at this
      exact this

set_option maxHeartbeats 1000000 in
theorem markPairs_some (w : World) (B g cap : Nat) (l : List (Int × Int)) (k0 : Int) (h0 : 0 ≤ k0) (h1 : k0 ≤ 4000000000000000000) (h : w.ownsRow B 85 2 (.slice (some ⟨g, 0, none⟩) l.length cap) l.length (flat2 l)) (hl : l.length ≤ 1000000000000000000) :
    Calls Try.prog 37 #[.slice (some ⟨g, 0, none⟩) l.length cap, .int .i64 k0] w fun e w' => e = .returned (.int .i64 (k0 + l.length * 2)) ∧
      OwnPairMarks B (.slice (some ⟨g, 0, none⟩) l.length cap) k0 l.length w' ∧ w.grownBy w' (some g) := by
  rw [← flatI_vals] at h
  have HO := Lib.hid h
  have hfl := flatI_length l
  clear h
  generalize flatI l = L at *
  generalize l.length = n at *
  clear l
  go_enter Try.func37, Try.ntmps37
  go_wp2
  go_loopw [1, 5] (fun kk i wr => ∃ j : Nat, j ≤ n ∧ i = .int .i64 j ∧ kk = .int .i64 (k0 + j * 2) ∧ Hid (wr.ownsRow B 85 2 (.slice (some ⟨g, 0, none⟩) n cap) n (vals (ihalf k0 L (j * 2)))) ∧ Hid (w.grownBy wr (some g))) (fun _ i _ => n - (intOf i).toNat)
  case atStart => exact ⟨0, Nat.zero_le _, rfl, by simp, by rw [Nat.zero_mul, ihalf_zero]; exact HO.out, grown_refl _ _⟩
  case round =>
    obtain ⟨j, hj, rfl, rfl, HR, HG⟩ := hrel
    by_cases hlt : j < n
    · go_wp2
      go_loopw [1, 6] (fun kk i wr => ∃ q : Nat, q ≤ 2 ∧ i = .int .i64 q ∧ kk = .int .i64 (k0 + j * 2 + q) ∧ Hid (wr.ownsRow B 85 2 (.slice (some ⟨g, 0, none⟩) n cap) n (vals (ihalf k0 L (j * 2 + q)))) ∧ Hid (w.grownBy wr (some g))) (fun _ i _ => 2 - (intOf i).toNat)
      case atStart => exact ⟨0, Nat.zero_le _, rfl, by simp, HR.out, HG.out⟩
      case round =>
        clear HR HG
        obtain ⟨q, hq, rfl, rfl, HR, HG⟩ := hrel
        by_cases hq2 : q < 2
        · obtain ⟨x, hx⟩ : ∃ x, L[j * 2 + q]? = some x := ⟨_, List.getElem?_eq_getElem (by omega)⟩
          have hc1 : wr.cell? ⟨g, j * 2 + q, none⟩ = some (.int .i64 x) := (HR.out.cellAt (j * 2 + q) (by omega)).trans (ihalf_get k0 L (j * 2 + q) x hx)
          have hf1 := HR.out.frozenAt (j * 2 + q)
          have hst := (HR.out.stored (j * 2 + q) (.int .i64 (k0 + ((j * 2 + q : Nat) : Int)))).1
          rw [ihalf_set k0 L (j * 2 + q) (by omega)] at hst
          have HG2 := Lib.hid (grown_set HG.out (j * 2 + q) (.int .i64 (k0 + ((j * 2 + q : Nat) : Int))))
          have e3 : k0 + ((j * 2 + q : Nat) : Int) = k0 + (j : Int) * 2 + (q : Int) := by omega
          rw [e3] at hst HG2
          have HST := Lib.hid hst
          clear hst hx e3 HR HG
          go_wp2
          go_roundw
          case rel => exact ⟨q + 1, by omega, by go_num, by go_num, HST.out, HG2.out⟩
          case measure => simp [intOf]; omega
        · obtain rfl : q = 2 := by omega
          have HR2 : Hid (wr.ownsRow B 85 2 (.slice (some ⟨g, 0, none⟩) n cap) n (vals (ihalf k0 L ((j + 1) * 2)))) := by rw [show (j + 1) * 2 = j * 2 + 2 by omega]; exact HR
          clear HR
          go_wp2
          go_roundw
          case rel => exact ⟨j + 1, by omega, by go_num, by go_num, HR2.out, HG.out⟩
          case measure => simp [intOf]; omega
    · obtain rfl : j = n := by omega
      go_wp2
      go_ret
      exact ⟨rfl, by unfold OwnPairMarks; rw [← hfl, ← ihalf_end, hfl]; exact HR.out, HG.out⟩
end Go.Proofs.Ytlfdimhnielleaa
/- Graphs: the walks of the laws' helpers over them. -/
namespace Go.Proofs.Ytlfdimhnielleaa
open Go.RowKit
set_option linter.unusedVariables false

abbrev graphV (n : Int) (e : Value) : Value := .agg #[.int .i64 n, e]

def GCopyEnd (n : Int) (l : List (Int × Int)) (w : World) (e : Ending) (w' : World) : Prop := ∃ v, e = .returned (graphV n v) ∧ OwnPairs w.heap.size v l w' ∧ Below w.heap.size w w'
set_option maxHeartbeats 1000000 in
/-- Whatever slice of pairs of the call's own it is. -/
theorem markPairs (w : World) (B : Nat) (v : Value) (l : List (Int × Int)) (k0 : Int) (h0 : 0 ≤ k0) (h1 : k0 ≤ 4000000000000000000) (h : OwnPairs B v l w) (hl : l.length ≤ 1000000000000000000) :
    Calls Try.prog 37 #[v, .int .i64 k0] w fun e w' => e = .returned (.int .i64 (k0 + l.length * 2)) ∧ OwnPairMarks B v k0 l.length w' ∧ w.grownBy w' v.ownBlock := by
  rcases h.2 with ⟨h2, h3⟩ | ⟨g, cap, cur, hv, _⟩
  · obtain rfl : l = [] := List.eq_nil_of_length_eq_zero h3
    subst h2
    have HO := Lib.hid h
    clear h h3
    go_enter Try.func37, Try.ntmps37
    go_wp2
    go_loopw [1, 5] (fun kk i wr => i = .int .i64 0 ∧ kk = .int .i64 k0 ∧ Hid (wr = w)) (fun _ i _ => 0)
    case atStart => exact ⟨rfl, rfl, rfl⟩
    case round =>
      obtain ⟨rfl, rfl, HW⟩ := hrel
      go_wp2
      go_ret
      have hw := HW.out
      subst hw
      exact ⟨by simp, by unfold OwnPairMarks; simpa [marksI, OwnPairs, flat2, vals] using HO.out, grown_refl _ _⟩
  · subst hv
    exact markPairs_some w B g cap l k0 h0 h1 h hl
end Go.Proofs.Ytlfdimhnielleaa
/- Slices of slices of numbers: what came in; the walks of the laws' helpers over them. -/
namespace Go.Proofs.Ytlfdimhnielleaa
open Go.RowKit
set_option linter.unusedVariables false

/-- The rows of a slice lie at its address, one a cell. -/
def GridAt (w : World) (a : Option Addr) (l : List (List Int)) : Prop :=
  l = [] ∨ ∃ b o, a = some ⟨b, o, none⟩ ∧ b < w.heap.size ∧ ∀ i r, l[i]? = some r → ∃ ra rc, w.cell? ⟨b, o + i, none⟩ = some (.slice ra r.length rc) ∧ IntsAt w ra r
theorem GridAt.below {w w' : World} {a : Option Addr} {l : List (List Int)} {B : Nat} (h : GridAt w a l) (hb : Below B w w') (hB : w.heap.size ≤ B) : GridAt w' a l := by
  rcases h with h | ⟨b, o, rfl, h1, h2⟩
  · exact .inl h
  · refine .inr ⟨b, o, rfl, Nat.lt_of_lt_of_le h1 hb.size, fun i r hr => ?_⟩
    obtain ⟨ra, rc, h3, h4⟩ := h2 i r hr
    exact ⟨ra, rc, (hb.cell (p := ⟨b, o + i, none⟩) (Nat.lt_of_lt_of_le h1 hB)).trans h3, h4.below hb hB⟩
theorem GridAt.cellAt {w : World} {a : Option Addr} {l : List (List Int)} (h : GridAt w a l) {k : Nat} {r : List Int} (hx : l[k]? = some r) :
    ∃ b o, a = some ⟨b, o, none⟩ ∧ b < w.heap.size ∧ ∃ ra rc, w.cell? ⟨b, o + k, none⟩ = some (.slice ra r.length rc) ∧ IntsAt w ra r := by
  rcases h with rfl | ⟨b, o, h1, h2, h3⟩
  · simp at hx
  · exact ⟨b, o, h1, h2, h3 k r hx⟩
/-- How many numbers all rows have. -/
def totI (l : List (List Int)) : Nat := (l.map (·.length)).sum
def SzGrid (l : List (List Int)) (left : Int) (w : World) (e : Ending) (w' : World) : Prop := ∃ r : Int, e = .returned (.int .i64 r) ∧ (r = -1 ∨ (0 ≤ r ∧ r + l.length + totI l = left)) ∧ w = w'
set_option maxHeartbeats 1000000 in
theorem eqRows (w : World) (a1 a2 : Option Addr) (l : List (List Int)) (c1 c2 : Nat) (h1 : GridAt w a1 l) (h2 : GridAt w a2 l) (hl : l.length ≤ 9223372036854775807) (hm : ∀ s ∈ l, s.length ≤ 9223372036854775807) :
    Calls Try.prog 34 #[.slice a1 l.length c1, .slice a2 l.length c2] w fun e w' => e = .returned (.bool true) ∧ Below w.heap.size w w' := by
  have H1 := Lib.hid h1
  have H2 := Lib.hid h2
  have HM := Lib.hid hm
  clear h1 h2 hm
  go_enter Try.func34, Try.ntmps34
  go_wp2
  go_loopw [5] (fun i wr => ∃ k : Nat, k ≤ l.length ∧ i = .int .i64 k ∧ Below w.heap.size w wr) (fun i _ => l.length - (intOf i).toNat)
  case atStart => exact ⟨0, Nat.zero_le _, rfl, Below.refl _ _⟩
  case round =>
    obtain ⟨k, hk, rfl, hb⟩ := hrel
    by_cases hlt : k < l.length
    · obtain ⟨x, hx⟩ : ∃ x, l[k]? = some x := ⟨_, List.getElem?_eq_getElem hlt⟩
      obtain ⟨b1, o1, rfl, _, ra1, rc1, hc1, hi1⟩ := (H1.out.below hb (Nat.le_refl _)).cellAt hx
      obtain ⟨b2, o2, rfl, _, ra2, rc2, hc2, hi2⟩ := (H2.out.below hb (Nat.le_refl _)).cellAt hx
      have p1 := cell_regrown hc1
      have p2 := cell_regrown hc2
      have hk0 : (0 : Int) ≤ (k : Int) := by omega
      have hkl : (k : Int) < (l.length : Int) := by omega
      have cM := Lib.hid fun W (hW : Below wr.heap.size wr W) => eqInts W ra1 ra2 x rc1 rc2 (hi1.below hW (Nat.le_refl _)) (hi2.below hW (Nat.le_refl _)) (HM.out x (List.mem_of_getElem? hx))
      clear hx hc1 hc2 hi1 hi2
      go_wp2_with fail
      refine wp_region_quiet_below (by kernel_rfl) (by kernel_rfl) ?_
      repeat (quiet_step (fail))
      quiet_step (exact Calls.regrown_of (cM.out _ (below_regrown wr _ _)))
      repeat (quiet_step (fail))
      refine wpQuiet_nil ?_
      intro _ hw'
      obtain ⟨⟨dq, osq⟩, hw''⟩ := hw'
      subst hw''
      go_wp2
      go_roundw
      case rel => exact ⟨k + 1, by omega, by go_num, hb.trans ((below_regrown wr dq osq).mono hb.size)⟩
      case measure => simp [intOf]; omega
    · go_wp2
      go_ret
      exact ⟨rfl, hb⟩
end Go.Proofs.Ytlfdimhnielleaa
/- A slice of slices of numbers is copied: each row in memory of its own. -/
namespace Go.Proofs.Ytlfdimhnielleaa
open Go.RowKit
set_option linter.unusedVariables false

theorem own_base {w : World} {base base' size n : Nat} {e : TypeId} {v : Value} {xs : List Value} (h : w.ownsRow base e size v n xs) (hb : base' ≤ base) : w.ownsRow base' e size v n xs := by
  refine ⟨h.1, ?_⟩
  rcases h.2 with h2 | ⟨g, cap, cur, hv, hg, hr⟩
  · exact .inl h2
  · exact .inr ⟨g, cap, cur, hv, Nat.le_trans hb hg, hr⟩
/-- Rows of the call's own, no two of them in one block. -/
def RowsOwn (B : Nat) (rs : List Value) (l : List (List Int)) (w : World) : Prop :=
  rs.length = l.length ∧ (∀ (i : Nat) (rv : Value) (r : List Int), rs[i]? = some rv → l[i]? = some r → OwnInts B rv r w) ∧ (∀ (i j : Nat) (ri rj : Value) (b : Nat), rs[i]? = some ri → rs[j]? = some rj → i < j → ri.ownBlock = some b → rj.ownBlock ≠ some b)
theorem RowsOwn.below {B : Nat} {rs : List Value} {l : List (List Int)} {w w' : World} (h : RowsOwn B rs l w) (hb : Below w.heap.size w w') : RowsOwn B rs l w' := by
  refine ⟨h.1, fun i rv r h1 h2 => ?_, h.2.2⟩
  refine World.ownsRow.kept (w' := w') (row := none) (h.2.1 i rv r h1 h2) ⟨hb.os, hb.tape, hb.output, hb.size, fun k hk _ => hb.block k hk⟩ ?_
  by_cases e : rv.ownBlock = none
  · exact .inl e
  · exact .inr e
theorem RowsOwn.store {B : Nat} {rs : List Value} {l : List (List Int)} {w : World} (h : RowsOwn B rs l w) {a : Addr} (ha : a.block < B) (u : Value) : RowsOwn B rs l (w.setCell a u) :=
  ⟨h.1, fun i rv r h1 h2 => ownsRow_setCell_below (h.2.1 i rv r h1 h2) ha u, h.2.2⟩
/-- A slice of rows of the call's own: its rows lie in other blocks than itself. -/
def OwnGrid (B : Nat) (v : Value) (l : List (List Int)) (w : World) : Prop := ∃ (g : Nat) (rs : List Value), v = .slice (some ⟨g, 0, none⟩) l.length l.length ∧ B ≤ g ∧ w.ownsRow B 40 1 v l.length rs ∧ RowsOwn (g + 1) rs l w
theorem OwnGrid.at {B : Nat} {v : Value} {l : List (List Int)} {w : World} (h : OwnGrid B v l w) : ∃ g cap, v = .slice (some ⟨g, 0, none⟩) l.length cap ∧ GridAt w (some ⟨g, 0, none⟩) l := by
  obtain ⟨g, rs, rfl, hB, ho, hr⟩ := h
  refine ⟨g, _, rfl, .inr ⟨g, 0, rfl, (ho.lt g rfl).2, fun i r hi => ?_⟩⟩
  have hil := (List.getElem?_eq_some_iff.1 hi).1
  obtain ⟨rv, hrv⟩ : ∃ rv, rs[i]? = some rv := ⟨_, List.getElem?_eq_getElem (by rw [hr.1]; exact hil)⟩
  obtain ⟨ra, rc, e, h1, _⟩ := (hr.2.1 i rv r hrv hi).at
  have hc := ho.cells (g := g) rfl i _ hrv
  rw [addI, e] at hc
  exact ⟨ra, rc, hc, h1⟩

def gcells (rs : List Value) (n : Nat) : List Value := rs ++ List.replicate (n - rs.length) (.slice none 0 0)
def GridCopyEnd (l : List (List Int)) (w : World) (e : Ending) (w' : World) : Prop := ∃ v, e = .returned v ∧ OwnGrid w.heap.size v l w' ∧ Below w.heap.size w w'
end Go.Proofs.Ytlfdimhnielleaa
/- Spaces: the walks of the laws' helpers over them. -/
namespace Go.Proofs.Ytlfdimhnielleaa
open Go.RowKit
set_option linter.unusedVariables false

abbrev spaceV (s e : Value) : Value := .agg #[s, e]
def SzSpace (l : List (List Int)) (m : Nat) (left : Int) (w : World) (e : Ending) (w' : World) : Prop := ∃ r : Int, e = .returned (.int .i64 r) ∧ (r = -1 ∨ (0 ≤ r ∧ r + l.length + totI l + m = left)) ∧ Below w.heap.size w w'
set_option maxHeartbeats 1000000 in
theorem eqSpace (w : World) (a1 a2 b1 b2 : Option Addr) (l : List (List Int)) (m : List (Int × Int)) (c1 c2 d1 d2 : Nat) (h1 : GridAt w a1 l) (h2 : GridAt w a2 l) (k1 : PairsAt w b1 m) (k2 : PairsAt w b2 m)
    (hl : l.length ≤ 9223372036854775807) (hm : ∀ s ∈ l, s.length ≤ 9223372036854775807) (hn : m.length ≤ 9223372036854775807) :
    Calls Try.prog 9 #[spaceV (.slice a1 l.length c1) (.slice b1 m.length d1), spaceV (.slice a2 l.length c2) (.slice b2 m.length d2)] w fun e w' => e = .returned (.bool true) ∧ Below w.heap.size w w' := by
  have C1 : Hid (∀ W, Below w.heap.size w W → Calls Try.prog 34 #[.slice a1 l.length c1, .slice a2 l.length c2] W fun e w' => e = .returned (.bool true) ∧ Below W.heap.size W w') :=
    fun W hb => eqRows W a1 a2 l c1 c2 (h1.below hb (Nat.le_refl _)) (h2.below hb (Nat.le_refl _)) hl hm
  have C2 : Hid (∀ W, Below w.heap.size w W → Calls Try.prog 35 #[.slice b1 m.length d1, .slice b2 m.length d2] W fun e w' => e = .returned (.bool true) ∧ Below W.heap.size W w') :=
    fun W hb => eqPairs W b1 b2 m d1 d2 (k1.below hb (Nat.le_refl _)) (k2.below hb (Nat.le_refl _)) hn
  have HB : Hid (∀ o1 o2, Below w.heap.size w ((w.alloc o1).alloc o2)) := fun o1 o2 => ((Below.refl _ _).alloc (Nat.le_refl _) _).alloc (by simp) _
  have HZ : Hid (∀ o1 o2 : Obj, w.heap.size + 1 + 1 = ((w.alloc o1).alloc o2).heap.size) := fun o1 o2 => by simp
  clear h1 h2 k1 k2 hm
  go_enter Try.func9, Try.ntmps9
  go_wp2_with fail
  refine (C1.out _ (HB.out _ _)).mono ?_
  rintro e w2 ⟨rfl, hb2⟩
  have hb3 := (HB.out _ _).trans (hb2.mono (by simp; omega))
  have j1 := hb2.cell (p := ⟨w.heap.size, 1, none⟩) (by simp; omega)
  have j2 := hb2.cell (p := ⟨w.heap.size + 1, 1, none⟩) (by simp)
  simp at j1 j2
  clear hb2
  go_wp2_with fail
  refine (C2.out _ hb3).mono ?_
  rintro e w3 ⟨rfl, hb4⟩
  have hb5 := hb3.trans (hb4.mono hb3.size)
  go_wp2
  go_ret
  exact ⟨rfl, hb5⟩
end Go.Proofs.Ytlfdimhnielleaa
/- A Space is copied: its slices in memory of their own. -/
namespace Go.Proofs.Ytlfdimhnielleaa
open Go.RowKit
set_option linter.unusedVariables false

/-- A slice of rows of the call's own, all of its blocks ahead of M. -/
def GridTo (B M : Nat) (v : Value) (l : List (List Int)) (w : World) : Prop :=
  ∃ (g : Nat) (rs : List Value), v = .slice (some ⟨g, 0, none⟩) l.length l.length ∧ B ≤ g ∧ g < M ∧ w.ownsRow B 40 1 v l.length rs ∧ RowsOwn (g + 1) rs l w ∧ ∀ (i : Nat) (rv : Value) (b : Nat), rs[i]? = some rv → rv.ownBlock = some b → b < M
theorem OwnGrid.to {B : Nat} {v : Value} {l : List (List Int)} {w : World} (h : OwnGrid B v l w) : GridTo B w.heap.size v l w := by
  obtain ⟨g, rs, rfl, hB, ho, hr⟩ := h
  refine ⟨g, rs, rfl, hB, (ho.lt g rfl).2, ho, hr, fun i rv b h1 h2 => ?_⟩
  obtain ⟨r, hr'⟩ : ∃ r, l[i]? = some r := ⟨_, List.getElem?_eq_getElem (by rw [← hr.1]; exact (List.getElem?_eq_some_iff.1 h1).1)⟩
  exact (World.ownsRow.lt (hr.2.1 i rv r h1 hr') b h2).2
theorem GridTo.below {B M : Nat} {v : Value} {l : List (List Int)} {w w' : World} (h : GridTo B M v l w) (hb : Below w.heap.size w w') : GridTo B M v l w' := by
  obtain ⟨g, rs, rfl, h2, h3, h4, h5, h6⟩ := h
  exact ⟨g, rs, rfl, h2, h3, h4.kept (w' := w') (row := none) ⟨hb.os, hb.tape, hb.output, hb.size, fun k hk _ => hb.block k hk⟩ (.inr (by simp [Value.ownBlock])), h5.below hb, h6⟩
theorem GridTo.store {B M : Nat} {v : Value} {l : List (List Int)} {w : World} (h : GridTo B M v l w) {a : Addr} (ha : a.block < B) (u : Value) : GridTo B M v l (w.setCell a u) := by
  obtain ⟨g, rs, h1, h2, h3, h4, h5, h6⟩ := h
  exact ⟨g, rs, h1, h2, h3, ownsRow_setCell_below h4 ha u, h5.store (by omega) u, h6⟩
theorem GridTo.le {B B' M : Nat} {v : Value} {l : List (List Int)} {w : World} (h : GridTo B M v l w) (hB : B' ≤ B) : GridTo B' M v l w := by
  obtain ⟨g, rs, h1, h2, h3, h4, h5, h6⟩ := h
  exact ⟨g, rs, h1, by omega, h3, own_base h4 hB, h5, h6⟩

def SpaceCopyEnd (l : List (List Int)) (m : List (Int × Int)) (w : World) (e : Ending) (w' : World) : Prop := ∃ v s M, e = .returned (spaceV v s) ∧ GridTo w.heap.size M v l w' ∧ OwnPairs M s m w' ∧ w.heap.size ≤ M ∧ Below w.heap.size w w'
end Go.Proofs.Ytlfdimhnielleaa
/- The laws' helpers, as contracts of the abstract walk. -/
namespace Go.Proofs.Ytlfdimhnielleaa.Abs
open Go.RowKit
set_option linter.unusedVariables false
set_option linter.unusedSimpArgs false
set_option maxHeartbeats 4000000

abbrev TP : Ty := .pr .int .int
abbrev TG : Ty := .pr .int (.sl TP)
abbrev TS : Ty := .pr (.sl (.sl .int)) (.sl TP)
theorem rep_ints {ok : Nat → Prop} {w : World} {l : List Int} {v : Value} (h : Rep ok w (.sl .int) l [v]) : ∃ a cap, v = .slice a l.length cap ∧ IntsAt w a l ∧ l.length ≤ 9223372036854775807 := by
  unfold Rep at h
  obtain ⟨a, cap, he, _, h3, h4⟩ := h
  simp at he
  refine ⟨a, cap, he, ?_, by unfold maxLen at h3; omega⟩
  rcases h4 with h4 | ⟨b, o, xs, rfl, _, h5, h6, h7, h8⟩
  · exact .inl h4
  · refine .inr ⟨b, o, rfl, h5, fun i x hx => ?_⟩
    obtain ⟨cs, hr, hc⟩ := rep_cells h6 h7 h8 hx
    unfold Rep at hr
    subst hr
    simpa [Ty.n] using hc 0 _ rfl
theorem rep_pairs {ok : Nat → Prop} {w : World} {l : List (Int × Int)} {v : Value} (h : Rep ok w (.sl TP) l [v]) : ∃ a cap, v = .slice a l.length cap ∧ PairsAt w a l ∧ l.length ≤ 9223372036854775807 := by
  unfold Rep at h
  obtain ⟨a, cap, he, _, h3, h4⟩ := h
  simp at he
  refine ⟨a, cap, he, ?_, by unfold maxLen at h3; omega⟩
  rcases h4 with h4 | ⟨b, o, xs, rfl, _, h5, h6, h7, h8⟩
  · exact .inl h4
  · refine .inr ⟨b, o, rfl, h5, fun i x hx => ?_⟩
    obtain ⟨cs, hr, hc⟩ := rep_cells h6 h7 h8 hx
    unfold Rep at hr
    obtain ⟨c1, c2, rfl, k1, k2⟩ := hr
    unfold Rep at k1 k2
    subst k1
    subst k2
    exact ⟨by simpa [Ty.n] using hc 0 _ rfl, by simpa [Ty.n] using hc 1 _ rfl⟩
theorem rep_grid {ok : Nat → Prop} {w : World} {l : List (List Int)} {v : Value} (h : Rep ok w (.sl (.sl .int)) l [v]) :
    ∃ a cap, v = .slice a l.length cap ∧ GridAt w a l ∧ l.length ≤ 9223372036854775807 ∧ ∀ s ∈ l, s.length ≤ 9223372036854775807 := by
  unfold Rep at h
  obtain ⟨a, cap, he, _, h3, h4⟩ := h
  simp at he
  rcases h4 with rfl | ⟨b, o, xs, rfl, _, h5, h6, h7, h8⟩
  · exact ⟨a, cap, he, .inl rfl, by unfold maxLen at h3; omega, fun s hs => by simp at hs⟩
  · have one : ∀ (i : Nat) (r : List Int), l[i]? = some r → ∃ ra rc, w.cell? ⟨b, o + i, none⟩ = some (.slice ra r.length rc) ∧ IntsAt w ra r ∧ r.length ≤ 9223372036854775807 := fun i r hr => by
      obtain ⟨cs, hR, hc⟩ := rep_cells h6 h7 h8 hr
      have hlen := hR.length
      match cs, hlen with
      | [u], _ =>
        obtain ⟨ra, rc, rfl, k1, k2⟩ := rep_ints hR
        exact ⟨ra, rc, by simpa [Ty.n] using hc 0 _ rfl, k1, k2⟩
    refine ⟨_, cap, he, .inr ⟨b, o, rfl, h5, fun i r hr => ?_⟩, by unfold maxLen at h3; omega, fun s hs => ?_⟩
    · obtain ⟨ra, rc, k1, k2, _⟩ := one i r hr
      exact ⟨ra, rc, k1, k2⟩
    · obtain ⟨i, hi⟩ := List.mem_iff_getElem?.1 hs
      obtain ⟨_, _, _, _, k⟩ := one i s hi
      exact k
theorem arg2 {w : World} {x y : AV} {vs : List Value} (hl : vs.length = 2) (hv : ∀ (i : Nat) (z : AV), [x, y][i]? = some z → ∃ v, vs[i]? = some v ∧ ArgRel w z v) : ∃ v u, vs = [v, u] ∧ ArgRel w x v ∧ ArgRel w y u := by
  match vs, hl with
  | [v, u], _ =>
    obtain ⟨v', hv', h⟩ := hv 0 x rfl
    obtain ⟨u', hu', h'⟩ := hv 1 y rfl
    cases hv'; cases hu'
    exact ⟨_, _, rfl, h, h'⟩
theorem arg_space {w : World} {x : List (List Int) × List (Int × Int)} {v : Value} (h : ArgRel w (.agg TS x) v) :
    ∃ a cap a' cap', v = spaceV (.slice a x.1.length cap) (.slice a' x.2.length cap') ∧ GridAt w a x.1 ∧ PairsAt w a' x.2 ∧ x.1.length ≤ 9223372036854775807 ∧ (∀ s ∈ x.1, s.length ≤ 9223372036854775807) ∧ x.2.length ≤ 9223372036854775807 := by
  obtain ⟨cs, rfl, hr⟩ := h
  unfold Rep at hr
  obtain ⟨c1, c2, rfl, k1, k2⟩ := hr
  have hlen1 := k1.length
  have hlen := k2.length
  match c1, hlen1, c2, hlen with
  | [p], _, [u], _ =>
    obtain ⟨a, cap, rfl, h1, h2, h3⟩ := rep_grid k1
    obtain ⟨a', cap', rfl, h4, h5⟩ := rep_pairs k2
    exact ⟨a, cap, a', cap', rfl, h1, h4, h2, h3, h5⟩
theorem post_one {w w' : World} {v : Value} {t : Ty} {x : t.den} (hb : Below w.heap.size w w') (h : IRel (fun b => w.heap.size ≤ b) w' t x v) : SpecPost [.im t x] w (.returned v) w' := ⟨v, rfl, hb, h⟩
theorem irel_bool {ok : Nat → Prop} {w : World} (b : Bool) : IRel ok w .bool b (.bool b) := by simp [IRel, Ty.isPr, Rep]
end Go.Proofs.Ytlfdimhnielleaa.Abs
/- Spaces and slices of numbers: the laws' helpers, as contracts. -/
namespace Go.Proofs.Ytlfdimhnielleaa.Abs
open Go.RowKit
set_option linter.unusedVariables false
set_option linter.unusedSimpArgs false
set_option maxHeartbeats 4000000

theorem law_eqSpace (x : List (List Int) × List (Int × Int)) : Spec Try.prog 9 [.agg TS x, .agg TS x] [.im .bool true] := by
  refine ⟨by kernel_rfl, fun w vs hl hv => ?_⟩
  obtain ⟨v, u, rfl, ha, hu⟩ := arg2 hl hv
  obtain ⟨a, cap, b, cap2, rfl, h2, h3, h4, h5, h6⟩ := arg_space ha
  obtain ⟨a', cap', b', cap2', rfl, h2', h3', _⟩ := arg_space hu
  refine (eqSpace w a a' b b' x.1 x.2 cap cap' cap2 cap2' h2 h2' h3 h3' h4 h5 h6).mono ?_
  rintro e w' ⟨rfl, hb⟩
  exact post_one hb (irel_bool _)

def rowsLeft : List (List Int) → Int → Int
  | [], r => r
  | x :: l, r => if (x.length : Int) ≤ r then rowsLeft l (r - x.length) else -1
def gridLeft (l : List (List Int)) (left : Int) : Int := if (l.length : Int) ≤ left then rowsLeft l (left - l.length) else -1
def gridSt (l : List (List Int)) (k : Nat) (r : Int) : AS := ⟨(.sl (.sl .int) l :: .int r :: .junk :: .junk :: .int 0 :: .int (k : Int) :: .junk :: .junk :: .junk :: .junk :: .junk :: .junk :: .junk :: .junk :: .junk :: .junk :: .junk :: .junk :: .junk :: .junk :: .junk :: .junk :: .junk :: .junk :: .junk :: .junk :: .junk :: []), []⟩
def spaceLeft (l : List (List Int)) (m : List (Int × Int)) (left : Int) : Int :=
  if gridLeft l left < 0 then -1 else if (m.length : Int) ≤ gridLeft l left then gridLeft l left - m.length else -1
end Go.Proofs.Ytlfdimhnielleaa.Abs

/- Types as a table, and what an operation that makes no memory yields: by reckoning. -/
import Derived.Test.YtbkdmnohpjihgaaMa
namespace Go.Proofs.Ytbkdmnohpjihgaa.M
open Go.RowKit Abs
set_option linter.unusedVariables false
set_option linter.unusedSimpArgs false

inductive UK where
  | int (k : IntKind) | bool | string
  | slice (e : TypeId) | array (n : Nat) (e : TypeId) | struct (fs : List (Nat × TypeId))
  | other
structure TI where
  und : UK
  size : Nat
  agg : Bool
  ty : Option Ty
/-- A table: a type's number to what is told of it. -/
abbrev Tab := TypeId → TI
def tl (T : Tab) (t : TypeId) : TI := T t
/-- A table as a tree, to be held against the program. -/
inductive TT where
  | leaf
  | node (k : TypeId) (v : TI) (l r : TT)
def tlt : TT → TypeId → TI
  | .leaf, _ => ⟨.other, 0, false, none⟩
  | .node k v l r, t => if t < k then tlt l t else if t = k then v else tlt r t
def undB (P : Program) (t : TypeId) (u : UK) : Bool :=
  match u, P.underlying t with
  | .other, _ => true
  | .int k, some (.int k') => k == k'
  | .bool, some .bool => true
  | .string, some .string => true
  | .slice e, some (.slice e') => e == e'
  | .array n e, some (.array n' e') => n == n' && e == e'
  | .struct l, some (.struct fs) => (fs.toList.map fun f => (f.offset, f.type)) == l
  | _, _ => false
def zmatch : Ty → List Value → Option (List Value)
  | .int, l => (match l with | .int .i64 n :: r => if (n == 0) = true then some r else none | _ => none)
  | .bool, l => (match l with | .bool b :: r => if (b) = true then none else some r | _ => none)
  | .str, l => (match l with | .string s :: r => if (s.size == 0) = true then some r else none | _ => none)
  | .sl _, l => (match l with | .slice none 0 0 :: r => some r | _ => none)
  | .pr a b, l => (zmatch a l).bind (zmatch b)
def tyB (P : Program) (t : TypeId) (tt : Ty) : Bool :=
  fits P t tt && (match P.info? t with
    | some i => i.size == tt.n && decide (i.bytes ≤ 1024) && (match i.zero with | some z => (match zmatch tt z.cells.toList with | some [] => true | _ => false) | none => false)
    | none => false)
def entryB (P : Program) (t : TypeId) (i : TI) : Bool :=
  undB P t i.und && szOf P t == some i.size && isAggB P t == some i.agg && (match i.ty with | some tt => tyB P t tt | none => true)
def tabB (P : Program) : TT → Bool
  | .leaf => true
  | .node k v l r => entryB P k v && tabB P l && tabB P r

theorem zmatch_sound : ∀ {t : Ty} {l r : List Value}, zmatch t l = some r → l = zcellsOf t ++ r
  | .pr a b, l, r, h => by
    unfold zmatch at h
    simp only [Option.bind_eq_some_iff] at h
    obtain ⟨m, h1, h2⟩ := h
    rw [zmatch_sound h1, zmatch_sound h2]
    simp [zcellsOf]
  | .int, l, r, h => by
    unfold zmatch at h
    split at h
    · rename_i n r'
      cases hn : (n == 0) with
      | true => rw [hn] at h; simp only [↓reduceIte] at h; cases h; simp at hn; subst hn; rfl
      | false => rw [hn] at h; cases h
    · cases h
  | .bool, l, r, h => by
    unfold zmatch at h
    split at h
    · rename_i b r'
      cases b
      · cases h; rfl
      · cases h
    · cases h
  | .str, l, r, h => by
    unfold zmatch at h
    split at h
    · rename_i s r'
      cases hn : (s.size == 0) with
      | true =>
        rw [hn] at h; simp only [↓reduceIte] at h; cases h
        have : s = ByteArray.empty := by
          apply ByteArray.ext
          apply Array.eq_empty_of_size_eq_zero
          simpa using hn
        subst this; rfl
      | false => rw [hn] at h; cases h
    · cases h
  | .sl t, l, r, h => by
    unfold zmatch at h
    split at h
    · cases h; rfl
    · cases h

/-- What the table says of a type. -/
structure EOk (P : Program) (t : TypeId) (i : TI) : Prop where
  und : undB P t i.und = true
  size : szOf P t = some i.size
  agg : isAggB P t = some i.agg
  ty : ∀ tt, i.ty = some tt → fits P t tt = true ∧ elemOk P t tt
theorem entry_ok {P : Program} {t : TypeId} {i : TI} (h : entryB P t i = true) : EOk P t i := by
  unfold entryB at h
  simp only [Bool.and_eq_true, beq_iff_eq] at h
  obtain ⟨⟨⟨h1, h2⟩, h3⟩, h4⟩ := h
  refine ⟨h1, h2, h3, fun tt ht => ?_⟩
  rw [ht] at h4
  simp only [tyB, Bool.and_eq_true] at h4
  obtain ⟨h5, h6⟩ := h4
  refine ⟨h5, ?_⟩
  split at h6
  · rename_i j hj
    simp only [Bool.and_eq_true, beq_iff_eq, decide_eq_true_eq] at h6
    obtain ⟨⟨h7, h8⟩, h9⟩ := h6
    split at h9
    · rename_i z hz
      split at h9
      · rename_i hm
        have := zmatch_sound hm
        rw [List.append_nil] at this
        exact ⟨by rw [hj]; simp [h7, hz, this], by rw [hj]; simp [h8]⟩
      · cases h9
    · cases h9
  · cases h6
def TOk (P : Program) (T : Tab) : Prop := ∀ t, tl T t = ⟨.other, 0, false, none⟩ ∨ EOk P t (tl T t)
theorem tab_ok {P : Program} : ∀ {T : TT}, tabB P T = true → TOk P (tlt T)
  | .leaf, _, t => .inl rfl
  | .node k v l r, h, t => by
    simp only [tabB, Bool.and_eq_true] at h
    unfold tl tlt
    split
    · exact tab_ok (T := l) h.1.2 t
    · split
      · rename_i hx; subst hx; exact .inr (entry_ok h.1.1)
      · exact tab_ok (T := r) h.2 t
section
variable {P : Program} {T : Tab} (hT : TOk P T) {t : TypeId}
include hT
theorem TOk.of {u : UK} (h : (tl T t).und = u) (hu : u ≠ .other) : EOk P t (tl T t) := by
  rcases hT t with h1 | h1
  · rw [h1] at h; exact (hu h.symm).elim
  · exact h1
theorem TOk.ty {tt : Ty} (h : (tl T t).ty = some tt) : fits P t tt = true ∧ elemOk P t tt ∧ EOk P t (tl T t) := by
  rcases hT t with h1 | h1
  · rw [h1] at h; cases h
  · exact ⟨(h1.ty tt h).1, (h1.ty tt h).2, h1⟩
theorem TOk.slice {e : TypeId} (h : (tl T t).und = .slice e) : slElem P t = some e := by
  have h1 := (hT.of h (by simp)).und
  rw [h] at h1
  unfold undB at h1
  split at h1 <;> simp_all [slElem]
theorem TOk.array {n : Nat} {e : TypeId} (h : (tl T t).und = .array n e) : arElem P t = some (n, e) := by
  have h1 := (hT.of h (by simp)).und
  rw [h] at h1
  unfold undB at h1
  split at h1 <;> simp_all [arElem]
theorem TOk.field {l : List (Nat × TypeId)} {f : Nat} {off : Nat} {ft : TypeId} (h : (tl T t).und = .struct l) (hf : l[f]? = some (off, ft)) : fieldOf P t f = some (off, ft) := by
  have h1 := (hT.of h (by simp)).und
  rw [h] at h1
  unfold undB at h1
  cases hu : P.underlying t with
  | none => rw [hu] at h1; cases h1
  | some d =>
    rw [hu] at h1
    cases d <;> simp only [Bool.false_eq_true] at h1
    simp only [beq_iff_eq] at h1
    unfold fieldOf
    rw [hu]
    rw [← h1, List.getElem?_map] at hf
    simpa using hf
theorem TOk.int {k : IntKind} (h : (tl T t).und = .int k) : P.underlying t = some (.int k) := by
  have h1 := (hT.of h (by simp)).und
  rw [h] at h1
  unfold undB at h1
  split at h1 <;> simp_all
theorem TOk.bool (h : (tl T t).und = .bool) : P.underlying t = some .bool := by
  have h1 := (hT.of h (by simp)).und
  rw [h] at h1
  unfold undB at h1
  split at h1 <;> simp_all
theorem TOk.string (h : (tl T t).und = .string) : P.underlying t = some .string := by
  have h1 := (hT.of h (by simp)).und
  rw [h] at h1
  unfold undB at h1
  split at h1 <;> simp_all
end

/-- An obligation. -/
abbrev Ob := Option (Unit → Prop)
def Ob.holds : Ob → Prop
  | none => True
  | some p => p ()
def inI (x : Int) : Prop := -9223372036854775808 ≤ x ∧ x ≤ 9223372036854775807
def getI (t : Ty) (l : List t.den) (i : Int) : t.den := l.getD i.toNat (zden t)
theorem getI_get {t : Ty} {l : List t.den} {i : Int} (h0 : 0 ≤ i) (h1 : i < (l.length : Int)) : l[i.toNat]? = some (getI t l i) := by
  unfold getI
  rw [List.getD_eq_getElem?_getD, List.getElem?_eq_getElem (by omega)]
  rfl
def getR (t : Ty) (l : List (List t.den)) (i : Int) : List t.den := l.getD i.toNat []
theorem getR_get {t : Ty} {l : List (List t.den)} {i : Int} (h0 : 0 ≤ i) (h1 : i < (l.length : Int)) : l[i.toNat]? = some (getR t l i) := by
  unfold getR
  rw [List.getD_eq_getElem?_getD, List.getElem?_eq_getElem (by omega)]
  rfl
def injT : (t : Ty) → (Unit → t.den) → AV
  | .int, x => .int x
  | .bool, x => .bool x
  | .str, x => .str x
  | .sl t, x => .sl t x
  | .pr a b, x => .agg (.pr a b) x
/-- The same datum at the same type. -/
def castT : (u t : Ty) → (Unit → u.den) → Option (Unit → t.den)
  | .int, .int, x => some x
  | .bool, .bool, x => some x
  | .str, .str, x => some x
  | .sl .int, .sl .int, x => some x
  | .sl .bool, .sl .bool, x => some x
  | .sl .str, .sl .str, x => some x
  | .sl (.sl .int), .sl (.sl .int), x => some x
  | .sl (.pr .int .int), .sl (.pr .int .int), x => some x
  | .sl (.sl (.pr .int .int)), .sl (.sl (.pr .int .int)), x => some x
  | .sl (.sl (.sl .int)), .sl (.sl (.sl .int)), x => some x
  | .pr .int .int, .pr .int .int, x => some x
  | .pr .int (.sl (.pr .int .int)), .pr .int (.sl (.pr .int .int)), x => some x
  | .pr (.sl (.sl .int)) (.sl (.pr .int .int)), .pr (.sl (.sl .int)) (.sl (.pr .int .int)), x => some x
  | .pr .int (.sl (.sl .int)), .pr .int (.sl (.sl .int)), x => some x
  | _, _, _ => none
theorem castT_rep {ok : Nat → Prop} {w : World} {u t : Ty} {x : Unit → u.den} {y : Unit → t.den} (h : castT u t x = some y) : u = t ∧ ∀ cs, Rep ok w u (x ()) cs → Rep ok w t (y ()) cs := by
  unfold castT at h
  split at h <;> cases h <;> exact ⟨rfl, fun cs h => h⟩
theorem castT_eq {u t : Ty} {x : Unit → u.den} {y : Unit → t.den} (h : castT u t x = some y) : ∃ e : u = t, y = fun _ => e ▸ x () := by
  unfold castT at h
  split at h <;> cases h <;> exact ⟨rfl, rfl⟩
def asB : AV → Option (Unit → Bool)
  | .lit b => some fun _ => b
  | .bool b => some b
  | _ => none
def cvv : Value → AV
  | .int .i64 x => .int fun _ => x
  | .int .u8 x => .u8 fun _ => x
  | .int .u64 x => .u64 fun _ => x
  | .bool b => .lit b
  | .string s => .str fun _ => s
  | .slice none 0 0 => .nilsl
  | .tuple vs => if vs.size = 0 then .undef else .junk
  | _ => .junk
def AS.ev (S : AS) : Operand → AV
  | .tmp t => S.tm.getD t .undef
  | .const v => cvv v
  | .global _ => .junk
  | .func f => .fn f []
def binF (T : Tab) (op : BinOp) (xt : TypeId) (X Y : AV) : Option (AV × Ob) :=
  match X, Y with
  | .int x, .int y => (match op with
    | .add => some (.int fun _ => x () + y (), some fun _ => inI (x () + y ()))
    | .sub => some (.int fun _ => x () - y (), some fun _ => inI (x () - y ()))
    | .mul => some (.int fun _ => x () * y (), some fun _ => inI (x () * y ()))
    | .quo => some (.int fun _ => (x ()).tdiv (y ()), some fun _ => y () ≠ 0 ∧ inI ((x ()).tdiv (y ())))
    | .rem => some (.int fun _ => (x ()).tmod (y ()), some fun _ => y () ≠ 0)
    | .eql => some (.bool fun _ => decide (x () = y ()), none)
    | .neq => some (.bool fun _ => !decide (x () = y ()), none)
    | .lss => some (.bool fun _ => decide (x () < y ()), none)
    | .leq => some (.bool fun _ => decide (x () ≤ y ()), none)
    | .gtr => some (.bool fun _ => decide (y () < x ()), none)
    | .geq => some (.bool fun _ => decide (y () ≤ x ()), none)
    | .shl => some (.int fun _ => x () * 2 ^ (min (y ()).toNat 64), some fun _ => 0 ≤ y () ∧ inI (x () * 2 ^ (min (y ()).toNat 64)))
    | .shr => some (.int fun _ => (x ()).fdiv (2 ^ (min (y ()).toNat 64)), some fun _ => 0 ≤ y ())
    | .and => some (.int fun _ => IntKind.i64.wrap (BitVec.ofInt 64 (x ()) &&& BitVec.ofInt 64 (y ())).toNat, none)
    | _ => none)
  | .u8 x, .u8 y => (match op with
    | .eql => some (.bool fun _ => decide (x () = y ()), none)
    | .neq => some (.bool fun _ => !decide (x () = y ()), none)
    | .lss => some (.bool fun _ => decide (x () < y ()), none)
    | .leq => some (.bool fun _ => decide (x () ≤ y ()), none)
    | .gtr => some (.bool fun _ => decide (y () < x ()), none)
    | .geq => some (.bool fun _ => decide (y () ≤ x ()), none)
    | _ => none)
  | .u64 x, .u64 y => (match op with
    | .shr => some (.u64 fun _ => (x ()).fdiv (2 ^ (min (y ()).toNat 64)), some fun _ => 0 ≤ y ())
    | _ => none)
  | .str x, .str y => (match op with
    | .eql => some (.bool fun _ => (x ()).toList == (y ()).toList, none)
    | .neq => some (.bool fun _ => !((x ()).toList == (y ()).toList), none)
    | .lss => some (.bool fun _ => Op.bytesLess (x ()).toList (y ()).toList, none)
    | _ => none)
  | X, Y => (match (tl T xt).und, asB X, asB Y with
    | .bool, some x, some y => (match op with
      | .eql => some (.bool fun _ => x () == y (), none)
      | .neq => some (.bool fun _ => !(x () == y ()), none)
      | _ => none)
    | _, _, _ => none)
section
variable {P : Program} {T : Tab} {w : World} {ok : Nat → Prop} {N : Nat} {val : Nat → Bd}
theorem asB_rel {X : AV} {x : Unit → Bool} {v : Value} (h : asB X = some x) (hv : VRel ok w N val X v) : v = .bool (x ()) := by
  unfold asB at h
  split at h <;> cases h <;> simpa [VRel] using hv
theorem wrap_in {x : Int} (h : inI x) : IntKind.i64.wrap x = x := by
  unfold inI at h
  rw [IntKind.wrap_i64]; omega
theorem bin_sound (hT : TOk P T) (op : BinOp) (xt : TypeId) (x y : Operand) {X Y V : AV} {O : Ob} {a b : Value} (hx : VRel ok w N val X a) (hy : VRel ok w N val Y b) (h : binF T op xt X Y = some (V, O)) (hO : O.holds) :
    ∃ v, ((do eqGuard op xt x y a b; binOp op xt a b : Sem Value)).run P w = .ok v w ∧ VRel ok w N val V v := by
  unfold binF at h
  split at h
  · rename_i p q
    simp only [VRel] at hx hy
    have key : ∀ (V1 : Abs.AV), binV P op xt (.int (p ())) (.int (q ())) V1 → (∀ v, Abs.VRel ok w 0 (fun _ => undef) V1 v → VRel ok w N val V v) → ∃ v, ((do eqGuard op xt x y a b; binOp op xt a b : Sem Value)).run P w = .ok v w ∧ VRel ok w N val V v := fun V1 h1 h2 => by
      obtain ⟨v, k1, k2⟩ := bin_ok (P := P) (w := w) (ok := ok) (N := 0) (val := fun _ => undef) op xt x y (X := .int (p ())) (Y := .int (q ())) (V := V1) hx hy h1
      exact ⟨v, k1, h2 v k2⟩
    cases op <;> simp only [Option.some.injEq, Prod.mk.injEq] at h <;> (try (cases h; done)) <;> obtain ⟨rfl, rfl⟩ := h
    case quo => exact key _ ⟨hO.1, rfl⟩ fun v hv => by rw [wrap_in hO.2] at hv; simp only [VRel]; exact hv
    case rem => exact key _ ⟨hO, rfl⟩ fun v hv => by simp only [VRel]; exact hv
    case shl => exact key _ ⟨hO.1, rfl⟩ fun v hv => by rw [wrap_in hO.2] at hv; simp only [VRel]; exact hv
    case shr => exact key _ ⟨hO, rfl⟩ fun v hv => by simp only [VRel]; exact hv
    case add => exact key _ rfl fun v hv => by rw [wrap_in hO] at hv; simp only [VRel]; exact hv
    case sub => exact key _ rfl fun v hv => by rw [wrap_in hO] at hv; simp only [VRel]; exact hv
    case mul => exact key _ rfl fun v hv => by rw [wrap_in hO] at hv; simp only [VRel]; exact hv
    case and => exact key _ rfl fun v hv => by simp only [VRel]; exact hv
    case eql => exact key _ rfl fun v hv => by have hv' : v = .bool (p () == q ()) := hv; simp only [VRel]; rw [hv']; rfl
    case neq => exact key _ rfl fun v hv => by have hv' : v = .bool (p () != q ()) := hv; simp only [VRel]; rw [hv']; rfl
    all_goals exact key _ rfl fun v hv => by simp only [VRel]; exact hv
  · rename_i p q
    simp only [VRel] at hx hy
    have key : ∀ (V1 : Abs.AV), binV P op xt (.u8 (p ())) (.u8 (q ())) V1 → (∀ v, Abs.VRel ok w 0 (fun _ => undef) V1 v → VRel ok w N val V v) → ∃ v, ((do eqGuard op xt x y a b; binOp op xt a b : Sem Value)).run P w = .ok v w ∧ VRel ok w N val V v := fun V1 h1 h2 => by
      obtain ⟨v, k1, k2⟩ := bin_ok (P := P) (w := w) (ok := ok) (N := 0) (val := fun _ => undef) op xt x y (X := .u8 (p ())) (Y := .u8 (q ())) (V := V1) hx hy h1
      exact ⟨v, k1, h2 v k2⟩
    cases op <;> simp only [Option.some.injEq, Prod.mk.injEq] at h <;> (try (cases h; done)) <;> obtain ⟨rfl, rfl⟩ := h
    case eql => exact key _ rfl fun v hv => by have hv' : v = .bool (p () == q ()) := hv; simp only [VRel]; rw [hv']; rfl
    case neq => exact key _ rfl fun v hv => by have hv' : v = .bool (p () != q ()) := hv; simp only [VRel]; rw [hv']; rfl
    all_goals exact key _ rfl fun v hv => by simp only [VRel]; exact hv
  · rename_i p q
    simp only [VRel] at hx hy
    cases op <;> simp only [Option.some.injEq, Prod.mk.injEq] at h <;> (try (cases h; done)) <;> obtain ⟨rfl, rfl⟩ := h
    obtain ⟨v, k1, k2⟩ := bin_ok (P := P) (w := w) (ok := ok) (N := 0) (val := fun _ => undef) .shr xt x y (X := .u64 (p ())) (Y := .u64 (q ())) (V := .u64 ((p ()).fdiv (2 ^ (min (q ()).toNat 64)))) hx hy ⟨hO, rfl⟩
    exact ⟨v, k1, by simp only [VRel]; exact k2⟩
  · rename_i p q
    simp only [VRel] at hx hy
    have key : ∀ (V1 : Abs.AV), binV P op xt (.str (p ())) (.str (q ())) V1 → (∀ v, Abs.VRel ok w 0 (fun _ => undef) V1 v → VRel ok w N val V v) → ∃ v, ((do eqGuard op xt x y a b; binOp op xt a b : Sem Value)).run P w = .ok v w ∧ VRel ok w N val V v := fun V1 h1 h2 => by
      obtain ⟨v, k1, k2⟩ := bin_ok (P := P) (w := w) (ok := ok) (N := 0) (val := fun _ => undef) op xt x y (X := .str (p ())) (Y := .str (q ())) (V := V1) hx hy h1
      exact ⟨v, k1, h2 v k2⟩
    cases op <;> simp only [Option.some.injEq, Prod.mk.injEq] at h <;> (try (cases h; done)) <;> obtain ⟨rfl, rfl⟩ := h
    all_goals exact key _ rfl fun v hv => by simp only [VRel]; exact hv
  · split at h
    · rename_i hu ha hb
      have h1 := asB_rel ha hx
      have h2 := asB_rel hb hy
      have hu' := hT.bool hu
      cases op <;> simp only [Option.some.injEq, Prod.mk.injEq] at h <;> (try (cases h; done)) <;> obtain ⟨rfl, rfl⟩ := h
      · obtain ⟨v, k1, k2⟩ := bin_ok (P := P) (w := w) (ok := ok) (N := 0) (val := fun _ => undef) .eql xt x y (X := .bool _) (Y := .bool _) (V := .bool _) h1 h2 ⟨hu', rfl⟩
        exact ⟨v, k1, by simp only [VRel]; exact k2⟩
      · obtain ⟨v, k1, k2⟩ := bin_ok (P := P) (w := w) (ok := ok) (N := 0) (val := fun _ => undef) .neq xt x y (X := .bool _) (Y := .bool _) (V := .bool _) h1 h2 ⟨hu', rfl⟩
        exact ⟨v, k1, by simp only [VRel]; exact k2⟩
    · cases h
theorem injT_rel {t : Ty} {x : Unit → t.den} {v : Value} (h : IRel ok w t (x ()) v) : VRel ok w N val (injT t x) v := by
  cases t with
  | pr a b => simp only [injT, VRel]; exact (by simpa [IRel, Ty.isPr] using h : ∃ cs : List Value, v = .agg cs.toArray ∧ Rep ok w (.pr a b) (x ()) cs)
  | int => simp [IRel, Ty.isPr] at h; unfold Rep at h; simp at h; simpa [injT, VRel] using h
  | bool => simp [IRel, Ty.isPr] at h; unfold Rep at h; simp at h; simpa [injT, VRel] using h
  | str => simp [IRel, Ty.isPr] at h; unfold Rep at h; simp at h; simpa [injT, VRel] using h
  | sl t => simp [IRel, Ty.isPr] at h; simpa [injT, VRel] using h
theorem cvv_rel (v : Value) : VRel ok w N val (cvv v) v := by
  unfold cvv
  split <;> (try split) <;> simp only [VRel]
  rename_i vs h
  have : vs = #[] := Array.eq_empty_of_size_eq_zero h
  subst this; rfl
theorem Rl.ev {w0 : World} {B : Nat → Prop} {hd : Nat → Value} {S : AS} {a : Act} (h : Rl w0 B hd S a w val) (x : Operand) : VRel (okF S.H val) w S.H.length val (S.ev x) (a.eval x) := by
  cases x with
  | tmp t => exact h.tmps t
  | const v => exact cvv_rel v
  | global g => simp [AS.ev, VRel]
  | func f => simp only [AS.ev, VRel]; exact ⟨[], rfl, by simp [VRelL]⟩
end
end Go.Proofs.Ytbkdmnohpjihgaa.M

/- Operations that make no memory: what they yield. -/
import Derived.Test.YtbkdmnohpjihgaaAbs2
namespace Go.Proofs.Ytbkdmnohpjihgaa.Abs
open Go.RowKit
set_option linter.unusedVariables false

def comp : (t : Ty) → t.den → Nat → Nat → Option TV
  | .pr a b, x, off, sz => if off = 0 ∧ sz = a.n + b.n then some ⟨.pr a b, x⟩ else if off + sz ≤ a.n then comp a x.1 off sz else if a.n ≤ off then comp b x.2 (off - a.n) sz else none
  | .int, x, off, sz => if off = 0 ∧ sz = 1 then some ⟨.int, x⟩ else none
  | .bool, x, off, sz => if off = 0 ∧ sz = 1 then some ⟨.bool, x⟩ else none
  | .str, x, off, sz => if off = 0 ∧ sz = 1 then some ⟨.str, x⟩ else none
  | .sl t, x, off, sz => if off = 0 ∧ sz = 1 then some ⟨.sl t, x⟩ else none
theorem take_one (cs : List Value) (h : cs.length = 1) : (cs.drop 0).take 1 = cs := by simp [List.take_of_length_le, h]
theorem comp_rep {ok : Nat → Prop} {w : World} : ∀ {t : Ty} {x : t.den} {cs : List Value} {off sz : Nat} {c : TV}, comp t x off sz = some c → Rep ok w t x cs → Rep ok w c.1 c.2 ((cs.drop off).take sz) ∧ c.1.n = sz
  | .pr a b, x, cs, off, sz, c, hc, h => by
    have hl := h.length
    unfold comp at hc
    split at hc
    · rename_i h0
      obtain ⟨rfl, rfl⟩ := h0
      cases hc
      refine ⟨?_, rfl⟩
      rw [List.drop_zero, List.take_of_length_le (by rw [hl]; exact Nat.le_refl _)]
      exact h
    · unfold Rep at h
      obtain ⟨c1, c2, rfl, h1, h2⟩ := h
      have l1 := h1.length
      split at hc
      · rename_i hle
        have := comp_rep hc h1
        rw [List.drop_append_of_le_length (by omega), List.take_append_of_le_length (by simp; omega)]
        exact this
      · split at hc
        · rename_i hle
          have := comp_rep hc h2
          rw [List.drop_append]
          rw [List.drop_eq_nil_of_le (by omega : c1.length ≤ off), List.nil_append, l1]
          exact this
        · cases hc
  | .int, x, cs, off, sz, c, hc, h => by
    unfold comp at hc
    split at hc
    · rename_i h0; obtain ⟨rfl, rfl⟩ := h0; cases hc; rw [take_one _ h.length]; exact ⟨h, rfl⟩
    · cases hc
  | .bool, x, cs, off, sz, c, hc, h => by
    unfold comp at hc
    split at hc
    · rename_i h0; obtain ⟨rfl, rfl⟩ := h0; cases hc; rw [take_one _ h.length]; exact ⟨h, rfl⟩
    · cases hc
  | .str, x, cs, off, sz, c, hc, h => by
    unfold comp at hc
    split at hc
    · rename_i h0; obtain ⟨rfl, rfl⟩ := h0; cases hc; rw [take_one _ h.length]; exact ⟨h, rfl⟩
    · cases hc
  | .sl t, x, cs, off, sz, c, hc, h => by
    unfold comp at hc
    split at hc
    · rename_i h0; obtain ⟨rfl, rfl⟩ := h0; cases hc; rw [take_one _ h.length]; exact ⟨h, rfl⟩
    · cases hc

def isAggB (P : Program) (t : TypeId) : Option Bool :=
  match P.underlying t with
  | some (.struct _) => some true
  | some (.array _ _) => some true
  | some _ => some false
  | none => none
def szOf (P : Program) (t : TypeId) : Option Nat := (P.info? t).map (·.size)
def fits (P : Program) (t : TypeId) (tt : Ty) : Bool := szOf P t == some tt.n && isAggB P t == some tt.isPr
def fieldOf (P : Program) (t : TypeId) (f : Nat) : Option (Nat × TypeId) :=
  match P.underlying t with
  | some (.struct fs) => (fs[f]?).map fun f => (f.offset, f.type)
  | _ => none
def slElem (P : Program) (t : TypeId) : Option TypeId :=
  match P.underlying t with
  | some (.slice e) => some e
  | _ => none
def arElem (P : Program) (t : TypeId) : Option (Nat × TypeId) :=
  match P.underlying t with
  | some (.array n e) => some (n, e)
  | _ => none
theorem fits_size {P : Program} {t : TypeId} {tt : Ty} (h : fits P t tt = true) : szOf P t = some tt.n := by simp [fits] at h; exact h.1
theorem fits_agg {P : Program} {t : TypeId} {tt : Ty} (h : fits P t tt = true) : isAggB P t = some tt.isPr := by simp [fits] at h; exact h.2
theorem slElem_und {P : Program} {t e : TypeId} (h : slElem P t = some e) : P.underlying t = some (.slice e) := by
  unfold slElem at h; split at h
  · rename_i e' he; cases h; exact he
  · cases h
theorem arElem_und {P : Program} {t e : TypeId} {n : Nat} (h : arElem P t = some (n, e)) : P.underlying t = some (.array n e) := by
  unfold arElem at h; split at h
  · rename_i e' he; cases h; assumption
  · cases h
section
variable {P : Program} {w : World}
theorem run_sz {t : TypeId} {n : Nat} (h : szOf P t = some n) : (sizeOf t).run P w = .ok n w := by
  unfold szOf at h
  cases hi : P.info? t with
  | none => rw [hi] at h; cases h
  | some i =>
    rw [hi] at h
    cases h
    simp [sizeOf, typeInfo, program, Sem.run, hi, bind, Sem.bind, pure]
theorem run_agg {t : TypeId} {b : Bool} (h : isAggB P t = some b) : (isAgg t).run P w = .ok b w := by
  unfold isAggB at h
  unfold isAgg
  simp only [bind, Sem.bind, underlying, program]
  split at h <;> simp_all [Sem.run, Sem.bind, pure]
  all_goals (first | (subst h; split <;> simp_all [Sem.run]) | skip)
end

def cv : Value → AV
  | .int .i64 x => .int x
  | .int .u8 x => .u8 x
  | .int .u64 x => .u64 x
  | .bool b => .bool b
  | .string s => .str s
  | .slice none 0 0 => .nilsl
  | .tuple vs => if vs.size = 0 then .undef else .junk
  | _ => .junk
theorem cv_rel {ok : Nat → Prop} {w : World} {N : Nat} {val : Nat → Value} (v : Value) : VRel ok w N val (cv v) v := by
  unfold cv
  split <;> (try split) <;> first | rfl | trivial | skip
  rename_i vs h
  have : vs = #[] := Array.eq_empty_of_size_eq_zero h
  subst this; rfl
def AS.ev (S : AS) : Operand → AV
  | .tmp t => S.tm.getD t .undef
  | .const v => cv v
  | .global _ => .junk
  | .func f => .fn f []
theorem Rl.ev {w0 w : World} {S : AS} {a : Act} {val : Nat → Value} (h : Rl w0 S a w val) (x : Operand) : VRel (okB S.H val) w S.H.length val (S.ev x) (a.eval x) := by
  cases x with
  | tmp t => exact h.tmps t
  | const v => exact cv_rel v
  | global g => trivial
  | func f => exact ⟨[], rfl, rfl, fun i r hr => by simp at hr⟩

/-- What a binary operation yields. -/
def binV (P : Program) (op : BinOp) (xt : TypeId) : AV → AV → AV → Prop
  | .int x, .int y, v => (match op with
    | .add => v = .int (IntKind.i64.wrap (x + y)) | .sub => v = .int (IntKind.i64.wrap (x - y)) | .mul => v = .int (IntKind.i64.wrap (x * y))
    | .quo => y ≠ 0 ∧ v = .int (IntKind.i64.wrap (x.tdiv y)) | .rem => y ≠ 0 ∧ v = .int (x.tmod y)
    | .eql => v = .bool (x == y) | .neq => v = .bool (x != y) | .lss => v = .bool (decide (x < y)) | .leq => v = .bool (decide (x ≤ y))
    | .gtr => v = .bool (decide (x > y)) | .geq => v = .bool (decide (x ≥ y))
    | .shl => 0 ≤ y ∧ v = .int (IntKind.i64.wrap (x * 2 ^ (min y.toNat 64))) | .shr => 0 ≤ y ∧ v = .int (x.fdiv (2 ^ (min y.toNat 64)))
    | .and => v = .int (IntKind.i64.wrap (BitVec.ofInt 64 x &&& BitVec.ofInt 64 y).toNat)
    | _ => False)
  | .bool x, .bool y, v => P.underlying xt = some .bool ∧ (match op with | .eql => v = .bool (x == y) | .neq => v = .bool (!(x == y)) | _ => False)
  | .str x, .str y, v => (match op with | .eql => v = .bool (x.toList == y.toList) | .neq => v = .bool (!(x.toList == y.toList)) | .lss => v = .bool (Op.bytesLess x.toList y.toList) | _ => False)
  | .u8 x, .u8 y, v => (match op with
    | .add => v = .u8 (IntKind.u8.wrap (x + y)) | .sub => v = .u8 (IntKind.u8.wrap (x - y))
    | .eql => v = .bool (x == y) | .neq => v = .bool (x != y) | .lss => v = .bool (decide (x < y)) | .leq => v = .bool (decide (x ≤ y))
    | .gtr => v = .bool (decide (x > y)) | .geq => v = .bool (decide (x ≥ y)) | _ => False)
  | .u64 x, .u64 y, v => (match op with
    | .shr => 0 ≤ y ∧ v = .u64 (x.fdiv (2 ^ (min y.toNat 64)))
    | _ => False)
  | _, _, _ => False
section
variable {P : Program} {w : World} {ok : Nat → Prop} {N : Nat} {val : Nat → Value}
theorem eqGuard_plain (op : BinOp) (t : TypeId) (x y : Operand) {a b : Value} (ha : (∃ k n, a = .int k n) ∨ (∃ c, a = .bool c) ∨ ∃ c, a = .string c) : (eqGuard op t x y a b).run P w = .ok () w := by
  unfold eqGuard
  rcases ha with ⟨k, n, rfl⟩ | ⟨c, rfl⟩ | ⟨c, rfl⟩ <;> (cases op <;> rfl)
theorem bin_ok (op : BinOp) (xt : TypeId) (x y : Operand) {X Y V : AV} {a b : Value} (hx : VRel ok w N val X a) (hy : VRel ok w N val Y b) (h : binV P op xt X Y V) :
    ∃ v, ((do eqGuard op xt x y a b; binOp op xt a b : Sem Value)).run P w = .ok v w ∧ VRel ok w N val V v := by
  have key : ∀ v, (binOp op xt a b).run P w = .ok v w → ((∃ k n, a = .int k n) ∨ (∃ c, a = .bool c) ∨ ∃ c, a = .string c) → ((do eqGuard op xt x y a b; binOp op xt a b : Sem Value)).run P w = .ok v w := by
    intro v hv ha
    have := eqGuard_plain (P := P) (w := w) op xt x y (b := b) ha
    simp [this, hv]
  cases X <;> cases Y <;> try exact h.elim
  case int.int p q =>
    have ea : a = .int .i64 p := hx
    have eb : b = .int .i64 q := hy
    subst ea eb
    refine (fun ⟨v, h1, h2⟩ => ⟨v, key v h1 (.inl ⟨_, _, rfl⟩), h2⟩ : (∃ v, (binOp op xt _ _).run P w = .ok v w ∧ VRel ok w N val V v) → _) ?_
    cases op <;> simp only [binV] at h <;> (try exact h.elim)
    case quo => obtain ⟨h0, rfl⟩ := h; exact ⟨_, by simp [binOp, Op.intDiv, h0], rfl⟩
    case rem => obtain ⟨h0, rfl⟩ := h; exact ⟨_, by simp [binOp, Op.intDiv, h0], rfl⟩
    case shl => obtain ⟨h0, rfl⟩ := h; exact ⟨_, by simp [binOp, Op.shift, show ¬ q < 0 by omega, IntKind.bits], rfl⟩
    case shr => obtain ⟨h0, rfl⟩ := h; exact ⟨_, by simp [binOp, Op.shift, show ¬ q < 0 by omega, IntKind.bits], rfl⟩
    all_goals (subst h; exact ⟨_, rfl, rfl⟩)
  case bool.bool p q =>
    have ea : a = .bool p := hx
    have eb : b = .bool q := hy
    subst ea eb
    refine (fun ⟨v, h1, h2⟩ => ⟨v, key v h1 (.inr (.inl ⟨_, rfl⟩)), h2⟩ : (∃ v, (binOp op xt _ _).run P w = .ok v w ∧ VRel ok w N val V v) → _) ?_
    simp only [binV] at h
    obtain ⟨hu, h⟩ := h
    have hr := run_equal_bool w xt p q hu
    cases op <;> (try exact h.elim)
    all_goals (simp only at h; subst h; refine ⟨_, ?_, rfl⟩; simp [binOp, hr])
  case str.str p q =>
    have ea : a = .string p := hx
    have eb : b = .string q := hy
    subst ea eb
    refine (fun ⟨v, h1, h2⟩ => ⟨v, key v h1 (.inr (.inr ⟨_, rfl⟩)), h2⟩ : (∃ v, (binOp op xt _ _).run P w = .ok v w ∧ VRel ok w N val V v) → _) ?_
    cases op <;> simp only [binV] at h <;> (try exact h.elim)
    all_goals (subst h; exact ⟨_, rfl, rfl⟩)
  case u8.u8 p q =>
    have ea : a = .int .u8 p := hx
    have eb : b = .int .u8 q := hy
    subst ea eb
    refine (fun ⟨v, h1, h2⟩ => ⟨v, key v h1 (.inl ⟨_, _, rfl⟩), h2⟩ : (∃ v, (binOp op xt _ _).run P w = .ok v w ∧ VRel ok w N val V v) → _) ?_
    cases op <;> simp only [binV] at h <;> (try exact h.elim)
    all_goals (subst h; exact ⟨_, rfl, rfl⟩)
  case u64.u64 p q =>
    have ea : a = .int .u64 p := hx
    have eb : b = .int .u64 q := hy
    subst ea eb
    refine (fun ⟨v, h1, h2⟩ => ⟨v, key v h1 (.inl ⟨_, _, rfl⟩), h2⟩ : (∃ v, (binOp op xt _ _).run P w = .ok v w ∧ VRel ok w N val V v) → _) ?_
    cases op <;> simp only [binV] at h <;> (try exact h.elim)
    case shr => obtain ⟨h0, rfl⟩ := h; exact ⟨_, by simp [binOp, Op.shift, show ¬ q < 0 by omega, IntKind.bits], rfl⟩
end
end Go.Proofs.Ytbkdmnohpjihgaa.Abs

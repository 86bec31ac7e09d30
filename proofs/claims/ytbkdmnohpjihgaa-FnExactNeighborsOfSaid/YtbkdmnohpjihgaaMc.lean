/- What an operation that makes no memory yields, by reckoning, and that it does. -/
import Derived.Test.YtbkdmnohpjihgaaMb
namespace Go.Proofs.Ytbkdmnohpjihgaa.M
open Go.RowKit Abs
set_option linter.unusedVariables false
set_option linter.unusedSimpArgs false

def compU : (t : Ty) → (Unit → t.den) → Nat → Nat → Option ((t : Ty) × (Unit → t.den))
  | .pr a b, x, off, sz => if (off == 0 && sz == a.n + b.n) = true then some ⟨.pr a b, x⟩ else if ((off + sz).ble a.n) = true then compU a (fun _ => (x ()).1) off sz else if (a.n.ble off) = true then compU b (fun _ => (x ()).2) (off - a.n) sz else none
  | .int, x, off, sz => if (off == 0 && sz == 1) = true then some ⟨.int, x⟩ else none
  | .bool, x, off, sz => if (off == 0 && sz == 1) = true then some ⟨.bool, x⟩ else none
  | .str, x, off, sz => if (off == 0 && sz == 1) = true then some ⟨.str, x⟩ else none
  | .sl t, x, off, sz => if (off == 0 && sz == 1) = true then some ⟨.sl t, x⟩ else none
theorem compU_comp : ∀ {t : Ty} {x : Unit → t.den} {off sz : Nat} {c : (t : Ty) × (Unit → t.den)}, compU t x off sz = some c → comp t (x ()) off sz = some ⟨c.1, c.2 ()⟩
  | .pr a b, x, off, sz, c, h => by
    unfold compU at h
    unfold comp
    cases h1 : (off == 0 && sz == a.n + b.n) with
    | true =>
      rw [h1] at h; simp only [↓reduceIte] at h; cases h
      simp only [Bool.and_eq_true, beq_iff_eq] at h1
      rw [if_pos h1]
    | false =>
      rw [h1] at h; simp only [Bool.false_eq_true, ↓reduceIte] at h
      have h1' : ¬ (off = 0 ∧ sz = a.n + b.n) := fun k => by simp [k.1, k.2] at h1
      rw [if_neg h1']
      cases h2 : (off + sz).ble a.n with
      | true =>
        rw [h2] at h; simp only [↓reduceIte] at h
        rw [if_pos (Nat.le_of_ble_eq_true h2)]
        exact compU_comp h
      | false =>
        rw [h2] at h; simp only [Bool.false_eq_true, ↓reduceIte] at h
        rw [if_neg (fun k => by rw [Nat.ble_eq_true_of_le k] at h2; cases h2)]
        cases h3 : a.n.ble off with
        | true =>
          rw [h3] at h; simp only [↓reduceIte] at h
          rw [if_pos (Nat.le_of_ble_eq_true h3)]
          exact compU_comp h
        | false => rw [h3] at h; cases h
  | .int, x, off, sz, c, h => by
    unfold compU at h; unfold comp
    cases h1 : (off == 0 && sz == 1) with
    | true => rw [h1] at h; cases h; simp only [Bool.and_eq_true, beq_iff_eq] at h1; rw [if_pos h1]
    | false => rw [h1] at h; cases h
  | .bool, x, off, sz, c, h => by
    unfold compU at h; unfold comp
    cases h1 : (off == 0 && sz == 1) with
    | true => rw [h1] at h; cases h; simp only [Bool.and_eq_true, beq_iff_eq] at h1; rw [if_pos h1]
    | false => rw [h1] at h; cases h
  | .str, x, off, sz, c, h => by
    unfold compU at h; unfold comp
    cases h1 : (off == 0 && sz == 1) with
    | true => rw [h1] at h; cases h; simp only [Bool.and_eq_true, beq_iff_eq] at h1; rw [if_pos h1]
    | false => rw [h1] at h; cases h
  | .sl t, x, off, sz, c, h => by
    unfold compU at h; unfold comp
    cases h1 : (off == 0 && sz == 1) with
    | true => rw [h1] at h; cases h; simp only [Bool.and_eq_true, beq_iff_eq] at h1; rw [if_pos h1]
    | false => rw [h1] at h; cases h

def at2 (p : Int × Int) (k : Int) : Int := if k = 0 then p.1 else p.2
def pickF (c a b : AV) : Option (AV × Ob) :=
  match c with
  | .lit true => some (a, none)
  | .lit false => some (b, none)
  | .bool c => (match a, b with
    | .int x, .int y => some (.int fun _ => if c () then x () else y (), none)
    | a, b => (match asB a, asB b with
      | some x, some y => some (.bool fun _ => if c () then x () else y (), none)
      | _, _ => none))
  | _ => none
def unF (op : UnOp) (x : AV) : Option (AV × Ob) :=
  match op, x with
  | .not, .lit b => some (.lit (!b), none)
  | .not, .bool b => some (.bool fun _ => !(b ()), none)
  | .neg, .int k => some (.int fun _ => 0 - k (), some fun _ => inI (0 - k ()))
  | _, _ => none
def loadF (T : Tab) (H : Hp) (t : TypeId) (x : AV) : Option (AV × Ob) :=
  match x with
  | .iptr tt x => (match (tl T t).ty with
    | some tt' => (castT tt tt' x).map fun y => (injT tt' y, none)
    | none => none)
  | .ptr n i => (match H[n]? with
    | some (some (.box _ cs)) => if ((tl T t).agg) = true then (if ((i + (tl T t).size).ble cs.length) = true then some (.cells ((cs.drop i).take (tl T t).size), none) else none) else
        if ((tl T t).size == 1) = true then (cs[i]?).map fun y => (y, none) else none
    | _ => none)
  | .ibox cs i => if ((tl T t).agg) = true then (if ((i + (tl T t).size).ble cs.length) = true then some (.cells ((cs.drop i).take (tl T t).size), none) else none) else
        if ((tl T t).size == 1) = true then (cs[i]?).map fun y => (y, none) else none
  | .eptr n i k => (match H[n]? with
    | some (some (.row _ tt l)) => if (k == tt.n) = true then (match (tl T t).ty with
      | some tt' => (castT tt tt' fun _ => getI tt (l ()) (i ())).map fun y => (injT tt' y, none)
      | none => none) else none
    | some (some (.rows _ _ _ _)) => if (k == 1 && (tl T t).size == 1 && !(tl T t).agg) = true then some (.elem n i, none) else none
    | _ => none)
  | .eelem n i j k => (match H[n]? with
    | some (some (.rows _ _ tt l)) => if (k == tt.n) = true then (match (tl T t).ty with
      | some tt' => (castT tt tt' fun _ => getI tt (getR tt (l ()) (i ())) (j ())).map fun y => (injT tt' y, none)
      | none => none) else none
    | _ => none)
  | _ => none
def idxF (T : Tab) (H : Hp) (t : TypeId) (x i : AV) : Option (AV × Ob) :=
  match i with
  | .int k => (match (tl T t).und, x with
    | .slice e, .sl tt l => if ((tl T e).size == tt.n) = true then some (.iptr tt fun _ => getI tt (l ()) (k ()), some fun _ => 0 ≤ k () ∧ k () < ((l ()).length : Int)) else none
    | .slice e, .ref n => (match H[n]? with
      | some (some (.row _ tt l)) => if ((tl T e).size == tt.n) = true then some (.eptr n k tt.n, some fun _ => 0 ≤ k () ∧ k () < ((l ()).length : Int)) else none
      | some (some (.rows _ _ tt l)) => if ((tl T e).size == 1) = true then some (.eptr n k 1, some fun _ => 0 ≤ k () ∧ k () < ((l ()).length : Int)) else none
      | some (some (.rowsH _ _ tt l _)) => if ((tl T e).size == 1) = true then some (.eptr n k 1, some fun _ => 0 ≤ k () ∧ k () < ((l ()).length : Int)) else none
      | _ => none)
    | .slice e, .elem n i => (match H[n]? with
      | some (some (.rows _ _ tt l)) => if ((tl T e).size == tt.n) = true then some (.eelem n i k tt.n, some fun _ => 0 ≤ k () ∧ k () < ((getR tt (l ()) (i ())).length : Int)) else none
      | _ => none)
    | .array len e, .ptr n j => if ((tl T e).size == 0) = true then none else some (.ptr n (j + (k ()).toNat * (tl T e).size), some fun _ => 0 ≤ k () ∧ k () < (len : Int))
    | .array len e, .ibox cs j => if ((tl T e).size == 0) = true then none else some (.ibox cs (j + (k ()).toNat * (tl T e).size), some fun _ => 0 ≤ k () ∧ k () < (len : Int))
    | .array 2 e, .iptr (.pr .int .int) d => if ((tl T e).size == 1) = true then some (.iptr .int fun _ => at2 (d ()) (k ()), some fun _ => 0 ≤ k () ∧ k () < 2) else none
    | _, _ => none)
  | _ => none
def fldF (T : Tab) (s : TypeId) (x : AV) (f : Nat) : Option (AV × Ob) :=
  match (tl T s).und with
  | .struct fs => (match fs[f]? with
    | some (off, ft) => if ((tl T ft).size == 0) = true then none else (match x with
      | .ptr n j => some (.ptr n (j + off), none)
      | .ibox cs j => some (.ibox cs (j + off), none)
      | .iptr tt d => (compU tt d off (tl T ft).size).map fun c => (.iptr c.1 c.2, none)
      | _ => none)
    | none => none)
  | _ => none
def fieldF (T : Tab) (xt : TypeId) (x : AV) (f : Nat) : Option (AV × Ob) :=
  match (tl T xt).und with
  | .struct fs => (match fs[f]? with
    | some (off, ft) => (match x with
      | .agg tt d => (match compU tt d off (tl T ft).size, (tl T ft).ty with
        | some c, some tt' => (castT c.1 tt' c.2).map fun y => (injT tt' y, none)
        | _, _ => none)
      | .cells l => if ((off + (tl T ft).size).ble l.length) = true then (if ((tl T ft).agg) = true then some (.cells ((l.drop off).take (tl T ft).size), none) else if ((tl T ft).size == 1) = true then (l[off]?).map fun y => (y, none) else none) else none
      | _ => none)
    | none => none)
  | _ => none
def indexF (T : Tab) (xt : TypeId) (x i : AV) : Option (AV × Ob) :=
  match x, i with
  | .agg (.pr .int .int) d, .int k => (match (tl T xt).und with
    | .array 2 e => (match (tl T e).ty with
      | some .int => some (.int fun _ => at2 (d ()) (k ()), some fun _ => 0 ≤ k () ∧ k () < 2)
      | _ => none)
    | _ => none)
  | .cells l, .int k => (match (tl T xt).und with
    | .array len e => if ((tl T e).size == 1 && !(tl T e).agg && l.length == len) = true then (l[(k ()).toNat]?).map fun y => (y, some fun _ => 0 ≤ k () ∧ k () < (len : Int)) else none
    | _ => none)
  | .str s, .int k => (match (tl T xt).und with
    | .string => some (.u8 fun _ => ((s ())[(k ()).toNat]?.getD 0).toNat, some fun _ => 0 ≤ k () ∧ k () < ((s ()).size : Int))
    | _ => none)
  | _, _ => none
def optU (S : AS) : Option Operand → Option (Option (Unit → Int))
  | none => some none
  | some x => (match S.ev x with
    | .int k => some (some k)
    | _ => none)
def subL {α : Type} (l : List α) (lo hi : Int) : List α := (l.take hi.toNat).drop lo.toNat
def sliceF (T : Tab) (S : AS) (xt : TypeId) (x : AV) (lo hi : Option Operand) : Option (AV × Ob) :=
  match (tl T xt).und, x, optU S lo, optU S hi with
  | .slice e, .sl tt l, some lo', some hi' => if ((tl T e).size == tt.n) = true then (match lo', hi' with
    | none, none => some (.sl tt fun _ => subL (l ()) 0 (l ()).length, none)
    | some a, none => some (.sl tt fun _ => subL (l ()) (a ()) (l ()).length, some fun _ => 0 ≤ a () ∧ a () ≤ ((l ()).length : Int))
    | none, some b => some (.sl tt fun _ => subL (l ()) 0 (b ()), some fun _ => 0 ≤ b () ∧ b () ≤ ((l ()).length : Int))
    | some a, some b => some (.sl tt fun _ => subL (l ()) (a ()) (b ()), some fun _ => 0 ≤ a () ∧ a () ≤ b () ∧ b () ≤ ((l ()).length : Int))) else none
  | .array 2 e, .iptr (.pr .int .int) d, some none, some none => if ((tl T e).size == 1) = true then some (.sl .int fun _ => [(d ()).1, (d ()).2], none) else none
  | _, _, _, _ => none
def lenF (T : Tab) (H : Hp) (t : TypeId) (x : AV) : Option (AV × Ob) :=
  match (tl T t).und, x with
  | .slice e, .sl _ l => some (.int fun _ => ((l ()).length : Int), none)
  | .slice e, .nilsl => some (.int fun _ => 0, none)
  | .slice e, .ref n => (match H[n]? with
    | some (some (.row _ _ l)) => some (.int fun _ => ((l ()).length : Int), none)
    | some (some (.rows _ _ _ l)) => some (.int fun _ => ((l ()).length : Int), none)
    | _ => none)
  | .slice e, .elem n i => (match H[n]? with
    | some (some (.rows _ _ t l)) => some (.int fun _ => ((getR t (l ()) (i ())).length : Int), none)
    | _ => none)
  | .string, .str s => some (.int fun _ => ((s ()).size : Int), none)
  | _, _ => none
def convF (T : Tab) (src dst : TypeId) (x : AV) : Option (AV × Ob) :=
  match (tl T src).und, x, (tl T dst).und with
  | .int .i64, .int k, .int .i64 => some (.int k, some fun _ => inI (k ()))
  | .int .i64, .int k, .int .u64 => some (.u64 k, some fun _ => 0 ≤ k () ∧ k () ≤ 9223372036854775807)
  | .int .u8, .u8 k, .int .i64 => some (.int k, some fun _ => inI (k ()))
  | .int .u64, .u64 k, .int .i64 => some (.int k, some fun _ => inI (k ()))
  | _, _, _ => none
def bltF (T : Tab) (S : AS) (b : Builtin) (ts : List TypeId) (xs : List Operand) : Option (AV × Ob) :=
  match b with
  | .len => (match xs with
    | [x] => (match ts with | t :: _ => lenF T S.H t (S.ev x) | _ => none)
    | _ => none)
  | .min => (match xs with
    | [x, y] => (match S.ev x, S.ev y with | .int a, .int b => some (.int fun _ => if b () < a () then b () else a (), none) | _, _ => none)
    | _ => none)
  | .max => (match xs with
    | [x, y] => (match S.ev x, S.ev y with | .int a, .int b => some (.int fun _ => if a () < b () then b () else a (), none) | _, _ => none)
    | _ => none)
  | _ => none
def qv (T : Tab) (S : AS) (o : Oper) : Option (AV × Ob) :=
  match o.op with
  | .move x => some (S.ev x, none)
  | .assign x => some (S.ev x, none)
  | .pick c a b => pickF (S.ev c) (S.ev a) (S.ev b)
  | .nilCheck x => (match S.ev x with | .ptr n i => some (.ptr n i, none) | .iptr t d => some (.iptr t d, none) | .eptr n i k => some (.eptr n i k, none) | .eelem n i j k => some (.eelem n i j k, none) | .ibox cs i => some (.ibox cs i, none) | _ => none)
  | .binOp op xt x y _ => binF T op xt (S.ev x) (S.ev y)
  | .unOp op _ x => unF op (S.ev x)
  | .load t a => loadF T S.H t (S.ev a)
  | .indexAddr t x i => idxF T S.H t (S.ev x) (S.ev i)
  | .fieldAddr s x f => fldF T s (S.ev x) f
  | .field xt x f => fieldF T xt (S.ev x) f
  | .index xt x i => indexF T xt (S.ev x) (S.ev i)
  | .extract t i => (match S.ev t with | .tup l => (l[i]?).map fun y => (y, none) | _ => none)
  | .slice xt x lo hi none => sliceF T S xt (S.ev x) lo hi
  | .makeFunc (.func f) first caps => if (first.size == 0) = true then some (.fn f (caps.toList.map S.ev), none) else none
  | .convert src dst x => convF T src dst (S.ev x)
  | .call c => (match c.callee with
    | .builtin b => bltF T S b c.argTypes.toList c.args.toList
    | _ => none)
  | _ => none
end Go.Proofs.Ytbkdmnohpjihgaa.M

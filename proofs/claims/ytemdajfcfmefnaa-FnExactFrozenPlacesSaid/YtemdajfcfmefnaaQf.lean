/- Mh, Mi, Bu, Mj, Mk, Ml, in one text. -/
import Derived.Test.YtemdajfcfmefnaaQb
import Derived.Laws.Tables
import Derived.Laws.CopyRow
/- Operations that make memory or write it, by reckoning. -/
namespace Go.Proofs.Ytemdajfcfmefnaa.M
open Go.RowKit Abs
set_option linter.unusedVariables false
set_option linter.unusedSimpArgs false

def cellsU : (t : Ty) → (Unit → t.den) → List AV
  | .pr a b, x => cellsU a (fun _ => (x ()).1) ++ cellsU b (fun _ => (x ()).2)
  | .int, x => [.int x]
  | .bool, x => [.bool x]
  | .str, x => [.str x]
  | .u64, x => [.u64 x]
  | .sl t, x => [.sl t x]
  | .ar k t, _ => List.replicate ((k + 1) * t.n) .junk
def cellsOf (H : Hp) : AV → Option (List AV)
  | .agg t x => some (cellsU t x)
  | .cells l => some l
  | .int x => some [.int x]
  | .lit x => some [.lit x]
  | .bool x => some [.bool x]
  | .str x => some [.str x]
  | .u8 x => some [.u8 x]
  | .u64 x => some [.u64 x]
  | .sl t l => some [.sl t l]
  | .ref n => (match H[n]? with
    | some (some (.row _ _ _)) => some [.ref n]
    | some (some (.rows _ _ _ _)) => some [.ref n]
    | _ => none)
  | .elem n i => (match H[n]? with
    | some (some (.rows _ _ _ _)) => some [.elem n i]
    | _ => none)
  | .ptr n i => some [.ptr n i]
  | .sub n a b k => some [.sub n a b k]
  | .eptr n i k => some [.eptr n i k]
  | .eelem n i j k => some [.eelem n i j k]
  | .iptr t x => some [.iptr t x]
  | .ibox l i => some [.ibox l i]
  | .fn f c => some [.fn f c]
  | .fnr f c => some [.fnr f c]
  | .ifr f c => some [.ifr f c]
  | .nilsl => some [.nilsl]
  | _ => none
/-- The elements of a slice, whose own data nothing changes. -/
def srcSl (H : Hp) (t : Ty) : AV → Option (Unit → List t.den)
  | .sl u l => castT (.sl u) (.sl t) l
  | .nilsl => some fun _ => []
  | .ref n => (match H[n]? with
    | some (some (.row _ u l)) => castT (.sl u) (.sl t) l
    | _ => none)
  | .elem n i => (match H[n]? with
    | some (some (.rows _ _ u l)) => castT (.sl u) (.sl t) fun _ => getR u (l ()) (i ())
    | _ => none)
  | .sub n lo hi k => (match H[n]? with
    | some (some (.row _ u l)) => if (k == u.n) = true then castT (.sl u) (.sl t) fun _ => subL (l ()) (lo ()) (hi ()) else none
    | _ => none)
  | _ => none
def viewSl (H : Hp) (t : Ty) (x : AV) : Option (Unit → List t.den) :=
  match x with
  | .ref n => (match H[n]? with
    | some (some (.row _ u l)) => castT (.sl u) (.sl t) l
    | some (some (.rows _ _ u l)) => castT (.sl (.sl u)) (.sl t) l
    | _ => none)
  | x => srcSl H t x
def viewC (H : Hp) : (t : Ty) → List AV → Option ((Unit → t.den) × List AV)
  | .int, l => (match l with | .int x :: r => some (x, r) | _ => none)
  | .bool, l => (match l with | x :: r => (asB x).map fun y => (y, r) | _ => none)
  | .str, l => (match l with | .str x :: r => some (x, r) | _ => none)
  | .u64, l => (match l with | .u64 x :: r => some (x, r) | _ => none)
  | .sl t, l => (match l with | x :: r => (viewSl H t x).map fun y => (y, r) | _ => none)
  | .pr a b, l => (match viewC H a l with
    | some (x, r) => (match viewC H b r with
      | some (y, r') => some (fun _ => (x (), y ()), r')
      | none => none)
    | none => none)
  | .ar _ _, _ => none
def viewD (H : Hp) (t : Ty) (x : AV) : Option (Unit → t.den) :=
  match x with
  | .agg u y => if (t.isPr) = true then castT u t y else none
  | .cells l => if (t.isPr) = true then (match viewC H t l with | some (y, []) => some y | _ => none) else none
  | x => if (t.isPr) = true then none else (match viewC H t [x] with | some (y, []) => some y | _ => none)
def zcU : Ty → List AV
  | .int => [.int fun _ => 0]
  | .bool => [.lit false]
  | .str => [.str fun _ => ByteArray.empty]
  | .u64 => [.u64 fun _ => 0]
  | .sl _ => [.nilsl]
  | .pr a b => zcU a ++ zcU b
  | .ar k t => List.replicate ((k + 1) * t.n) .junk
def splice (cs : List AV) (i : Nat) (xs : List AV) : List AV := cs.take i ++ xs ++ cs.drop (i + xs.length)
def AS.new (S : AS) (d : Option Tmp) (x : AV) (b : Blk) : AS := { S with H := S.H ++ [some b] }.put d x
def setI {α : Type} (l : List α) (i : Int) (y : α) : List α := l.set i.toNat y
def setR (t : Ty) (l : List (List t.den)) (i j : Int) (y : t.den) : List (List t.den) := l.set i.toNat ((getR t l i).set j.toNat y)
def partR (H : Hp) (e2 : TypeId) (tt : Ty) : AV → Option ((Unit → List tt.den) × List Nat)
  | .ref m => (match H[m]? with
    | some (some (.row e' u l)) => if (e' == e2) = true then (castT (.sl u) (.sl tt) l).map fun y => (y, [m]) else none
    | _ => none)
  | .nilsl => some (fun _ => [], [])
  | _ => none
def storeF (T : Tab) (S : AS) (dst : Option Tmp) (t : TypeId) (a x : AV) : Option AS :=
  match a with
  | .ptr n i => (match S.H[n]? with
    | some (some (.box e cs)) => (match cellsOf S.H x with
      | some xs => if ((tl T t).size == xs.length && (i + xs.length).ble cs.length && !xs.isEmpty) = true then some ({ S with H := S.H.set n (some (.box e (splice cs i xs))) }.put dst .undef) else none
      | none => none)
    | _ => none)
  | .eptr n i k => (match S.H[n]? with
    | some (some (.row e tt l)) => if (k == tt.n && (tl T t).size == tt.n) = true then (viewD [] tt x).map fun y => { S with H := S.H.set n (some (.row e tt fun _ => setI (l ()) (i ()) (y ()))) }.put dst .undef else none
    | some (some (.rows e e2 tt l)) => if (k == 1 && (tl T t).size == 1) = true then (match partR S.H e2 tt x with
      | some (y, C) => if (C.contains n) = true then none else some (AS.put { S with tm := scrubL n false S.tm, H := (scrubH n false (dropC C S.H)).set n (some (.rows e e2 tt fun _ => setI (l ()) (i ()) (y ()))) } dst .undef)
      | none => none) else none
    | _ => none)
  | .eelem n i j k => (match S.H[n]? with
    | some (some (.rows e e2 tt l)) => if (k == tt.n && (tl T t).size == tt.n) = true then (viewD [] tt x).map fun y => { S with H := S.H.set n (some (.rows e e2 tt fun _ => setR tt (l ()) (i ()) (j ()) (y ()))) }.put dst .undef else none
    | _ => none)
  | _ => none
def partsU (S : AS) (tt : Ty) : Nat → List (Nat × Operand) → Option (Unit → List tt.den)
  | _, [] => some fun _ => []
  | i, (j, x) :: r => if (i == j) = true then (match viewD [] tt (S.ev x), partsU S tt (i + 1) r with
    | some y, some l => some fun _ => y () :: l ()
    | _, _ => none) else none
def buildF (T : Tab) (S : AS) (dst : Option Tmp) (t : TypeId) (len : Nat) (parts : List (Nat × Operand)) : Option AS :=
  match (tl T t).und with
  | .slice e => (match (tl T e).und, (tl T e).ty with
    | .slice e2, some (.sl tt) => (match parts with
      | [] => if (len == 0) = true then some (S.new dst (.ref S.H.length) (.rows e e2 tt fun _ => [])) else none
      | [(0, x)] => if (len == 1) = true then (match partR S.H e2 tt (S.ev x) with
        | some (y, C) => some (AS.put { S with H := dropC C S.H ++ [some (.rows e e2 tt fun _ => [y ()])] } dst (.ref S.H.length))
        | none => none) else none
      | _ => none)
    | .slice _, _ => none
    | _, some tt => if (parts.length == len && (len * tt.n).ble 16777216) = true then (partsU S tt 0 parts).map fun l => S.new dst (.ref S.H.length) (.row e tt l) else none
    | _, _ => none)
  | _ => none
/-- A slice of data, whatever their type. -/
def buildR (T : Tab) (S : AS) (dst : Option Tmp) (t : TypeId) (len : Nat) (parts : List (Nat × Operand)) : Option AS :=
  match (tl T t).und with
  | .slice e => (match (tl T e).ty with
    | some tt => if (parts.length == len && (len * tt.n).ble 16777216) = true then (partsU S tt 0 parts).map fun l => S.new dst (.ref S.H.length) (.row e tt l) else none
    | none => none)
  | _ => none
def makeF (T : Tab) (S : AS) (dst : Option Tmp) (t : TypeId) (p q : AV) : Option (AS × Ob) :=
  match (tl T t).und, p, q with
  | .slice e, .int p, .int q => (match (tl T e).und, (tl T e).ty with
    | .slice e2, some (.sl tt) => some (S.new dst (.ref S.H.length) (.rows e e2 tt fun _ => List.replicate (p ()).toNat []), some fun _ => 0 ≤ p () ∧ p () ≤ q () ∧ q () ≤ 4294967296)
    | .slice _, _ => none
    | _, some tt => some (S.new dst (.ref S.H.length) (.row e tt fun _ => List.replicate (p ()).toNat (zden tt)), some fun _ => 0 ≤ p () ∧ p () ≤ q () ∧ q () ≤ 4294967296)
    | _, _ => none)
  | _, _, _ => none
def appF (T : Tab) (S : AS) (dst : Option Tmp) (t : TypeId) (s x : AV) : Option (AS × Ob) :=
  match (tl T t).und, s with
  | .slice e0, .ref n => (match S.H[n]? with
    | some (some (.row e tt l)) => if (e0 == e) = true then (match (tl T e).ty with
      | some tt' => (match castT tt' tt (fun _ => zden tt'), srcSl S.H tt x with
        | some _, some l2 => some (if (n.blt S.k) = true then AS.put { S with H := dropC [n] S.H ++ [some (.row e tt fun _ => l () ++ l2 ())] } dst (.ref S.H.length) else AS.put { S with tm := scrubL n true S.tm, H := (scrubH n true (dropC [] S.H)).set n (some (.row e tt fun _ => l () ++ l2 ())) } dst (.ref n), some fun _ => (l ()).length + (l2 ()).length ≤ 4294967296)
        | _, _ => none)
      | none => none) else none
    | some (some (.rows e e2 tt l)) => if (e0 == e) = true then (match x with
      | .ref m => (match S.H[m]? with
        | some (some (.rows e' e2' u l2)) => if (e' == e && e2' == e2 && !(m == n)) = true then (match castT (.sl (.sl u)) (.sl (.sl tt)) l2, (tl T e).ty with
          | some l3, some (.sl _) => if (n.blt S.k) = true then none else some (AS.put { S with tm := scrubL n true S.tm, H := (scrubH n true (dropC [m] S.H)).set n (some (.rows e e2 tt fun _ => l () ++ l3 ())) } dst (.ref n), some fun _ => (l ()).length + (l3 ()).length ≤ 4294967296)
          | _, _ => none) else none
        | _ => none)
      | _ => none) else none
    | _ => none)
  | .slice e0, .elem n i => (match S.H[n]? with
    | some (some (.rows e e2 tt l)) => if (e0 == e2) = true then (match (tl T e2).ty with
      | some tt' => (match castT tt' tt (fun _ => zden tt'), srcSl S.H tt x with
        | some _, some l2 => some (AS.put { S with tm := scrubL n false S.tm, H := (scrubH n false S.H).set n (some (.rowsH e e2 tt l i)) ++ [some (.row e2 tt fun _ => getR tt (l ()) (i ()) ++ l2 ())] } dst (.ref S.H.length), some fun _ => (getR tt (l ()) (i ())).length + (l2 ()).length ≤ 4294967296)
        | _, _ => none)
      | none => none) else none
    | _ => none)
  | .slice e, .nilsl => (match (tl T e).und, (tl T e).ty with
    | .slice _, _ => none
    | _, some tt => (match srcSl S.H tt x with
      | some l2 => some (S.new dst (.ref S.H.length) (.row e tt l2), some fun _ => (l2 ()).length ≤ 4294967296)
      | none => none)
    | _, _ => none)
  | _, _ => none
/-- A row is handed back into its place. -/
def storeH (T : Tab) (S : AS) (dst : Option Tmp) (t : TypeId) (a x : AV) : Option (AS × Ob) :=
  match a with
  | .eptr n i k => (match S.H[n]? with
    | some (some (.rowsH e e2 tt l j)) => if (k == 1 && (tl T t).size == 1) = true then (match partR S.H e2 tt x with
      | some (y, C) => if (C.contains n) = true then none else some (AS.put { S with tm := scrubL n false S.tm, H := (scrubH n false (dropC C S.H)).set n (some (.rows e e2 tt fun _ => setI (l ()) (i ()) (y ()))) } dst .undef, some fun _ => (i ()).toNat = (j ()).toNat)
      | none => none) else none
    | _ => none)
  | _ => none
/-- A copy into a row of the call's own, or a part of it. -/
def cpy {α : Type} (l y : List α) (lo hi : Int) : List α := l.take lo.toNat ++ y.take (hi - lo).toNat ++ l.drop (min (lo.toNat + y.length) hi.toNat)
def copyF (T : Tab) (S : AS) (dst : Option Tmp) (t : TypeId) (d x : AV) : Option (AS × Ob) :=
  match (tl T t).und with
  | .slice e0 => (match d with
    | .ref n => (match S.H[n]? with
      | some (some (.row e tt l)) => if ((tl T e0).size == 1 && tt.n == 1) = true then (srcSl S.H tt x).map fun y => ({ S with H := S.H.set n (some (.row e tt fun _ => cpy (l ()) (y ()) 0 (l ()).length)) }.put dst (.int fun _ => min ((y ()).length : Int) ((l ()).length - 0)), none) else none
      | _ => none)
    | .sub n lo hi k => (match S.H[n]? with
      | some (some (.row e tt l)) => if ((tl T e0).size == 1 && tt.n == 1 && k == 1) = true then (srcSl S.H tt x).map fun y => ({ S with H := S.H.set n (some (.row e tt fun _ => cpy (l ()) (y ()) (lo ()) (hi ()))) }.put dst (.int fun _ => min ((y ()).length : Int) (hi () - lo ())), none) else none
      | _ => none)
    | _ => none)
  | _ => none
/-- A struct or an array of given parts, each of one cell. -/
def placesF (T : Tab) : UK → Option (Nat → Option (Nat × Nat))
  | .struct l => if (l.all fun p => !((tl T p.2).size == 0)) = true then some fun i => (l[i]?).map fun p => (p.1, (tl T p.2).size) else none
  | .array _ e => if ((tl T e).size == 0) = true then none else some fun i => some (i * (tl T e).size, (tl T e).size)
  | _ => none
def fillF (S : AS) (pl : Nat → Option (Nat × Nat)) : List AV → List (Nat × Operand) → Option (List AV)
  | cs, [] => some cs
  | cs, (i, x) :: r => (match pl i, cellsOf S.H (S.ev x) with
    | some (off, 1), some [c] => if (off.blt cs.length) = true then fillF S pl (cs.set off c) r else none
    | _, _ => none)
def buildC (T : Tab) (S : AS) (t : TypeId) (parts : List (Nat × Operand)) : Option AV :=
  match (tl T t).ty with
  | some tt => (match placesF T (tl T t).und with
    | some pl => (fillF S pl (zcU tt) parts).map .cells
    | none => none)
  | none => none
/-- A struct of all its parts, in their order. -/
def partsP (T : Tab) (S : AS) (total : Nat) : Nat → Nat → List (Nat × TypeId) → List (Nat × Operand) → Option (List AV)
  | off, _, [], [] => if (off == total) = true then some [] else none
  | off, i, (o, ft) :: l, (j, x) :: r => if (o == off && j == i && !((tl T ft).size == 0)) = true then (match cellsOf S.H (S.ev x) with
    | some cs => if (cs.length == (tl T ft).size) = true then (partsP T S total (off + (tl T ft).size) (i + 1) l r).map fun ds => cs ++ ds else none
    | none => none) else none
  | _, _, _, _ => none
def buildP (T : Tab) (S : AS) (t : TypeId) (parts : List (Nat × Operand)) : Option AV :=
  match (tl T t).und with
  | .struct l => (partsP T S (tl T t).size 0 0 l parts).map .cells
  | _ => none
/-- Variables that are arrays: made, written, copied into. -/
def memA (T : Tab) (S : AS) (o : Oper) : Option (AS × Ob) :=
  match o.op with
  | .build t parts => (match (tl T t).ty, (tl T t).und, parts.toList with
    | some (.ar q tt), .array _ e, [] => if ((tl T e).size == 0) = true then none else some (S.put o.dst (.agg (.ar q tt) fun _ => List.replicate (q + 1) (zden tt)), none)
    | _, _, _ => none)
  | .box e x => (match (tl T e).ty with
    | some (.ar q tt) => if ((q + 1).ble 1024) = true then (viewD [] (.ar q tt) (S.ev x)).map fun y => (S.new o.dst (.eptr S.H.length (fun _ => 0) 0) (.arr e q tt y), none) else none
    | _ => none)
  | .alloc e => (match (tl T e).ty with
    | some (.ar q tt) => if ((q + 1).ble 1024) = true then some (S.new o.dst (.eptr S.H.length (fun _ => 0) 0) (.arr e q tt fun _ => List.replicate (q + 1) (zden tt)), none) else none
    | _ => none)
  | .store t p x => (match S.ev p with
    | .eptr n i k => (match S.H[n]? with
      | some (some (.arr e q tt l)) => if (k == 0) = true then (if ((tl T t).size == (q + 1) * tt.n) = true then (viewD [] (.ar q tt) (S.ev x)).map fun y => ({ S with H := S.H.set n (some (.arr e q tt y)) }.put o.dst .undef, none) else none)
          else if (k == tt.n && (tl T t).size == tt.n) = true then (viewD [] tt (S.ev x)).map fun y => ({ S with H := S.H.set n (some (.arr e q tt fun _ => setI (l ()) (i ()) (y ()))) }.put o.dst .undef, none) else none
      | _ => none)
    | _ => none)
  | .call c => (match c.callee, c.argTypes.toList, c.args.toList with
    | .builtin .copy, [t, t'], [d, x] => if (t == t') = true then (match (tl T t).und, S.ev d with
      | .slice e0, .sub n lo hi k => (match S.H[n]? with
        | some (some (.arr e q tt l)) => if ((tl T e0).size == 1 && tt.n == 1 && k == 1) = true then (srcSl S.H tt (S.ev x)).map fun y => ({ S with H := S.H.set n (some (.arr e q tt fun _ => cpy (l ()) (y ()) (lo ()) (hi ()))) }.put o.dst (.int fun _ => min ((y ()).length : Int) (hi () - lo ())), none) else none
        | _ => none)
      | _, _ => none) else none
    | _, _, _ => none)
  | _ => none
def memG (T : Tab) (S : AS) (o : Oper) : Option (AS × Ob) :=
  match o.op with
  | .build t parts => (match buildC T S t parts.toList with
    | some v => some (S.put o.dst v, none)
    | none => (buildP T S t parts.toList).map fun v => (S.put o.dst v, none))
  | .box e x => (cellsOf S.H (S.ev x)).map fun cs => (S.new o.dst (.ptr S.H.length 0) (.box e cs), none)
  | .alloc e => (match (tl T e).ty with
    | some tt => some (S.new o.dst (.ptr S.H.length 0) (.box e (zcU tt)), none)
    | none => none)
  | .store t a x => (match storeH T S o.dst t (S.ev a) (S.ev x) with
    | some r => some r
    | none => (storeF T S o.dst t (S.ev a) (S.ev x)).map fun S' => (S', none))
  | .buildSlice t len parts => (match buildF T S o.dst t len parts.toList with
    | some S' => some (S', none)
    | none => (buildR T S o.dst t len parts.toList).map fun S' => (S', none))
  | .makeSlice t l c => makeF T S o.dst t (S.ev l) (S.ev c)
  | .call c => (match c.callee, c.argTypes.toList, c.args.toList with
    | .builtin .append, [t, t'], [s, x] => if (t == t') = true then appF T S o.dst t (S.ev s) (S.ev x) else none
    | .builtin .copy, [t, t'], [d, x] => if (t == t') = true then copyF T S o.dst t (S.ev d) (S.ev x) else none
    | _, _, _ => none)
  | _ => none
/-- Numbers in cells, as a list. -/
def allI' : List AV → Option (Unit → List Int)
  | [] => some fun _ => []
  | .int x :: r => (allI' r).map fun l => fun _ => x () :: l ()
  | _ :: _ => none
/-- Structs of a number and an array of numbers: made and written. -/
def memS (T : Tab) (S : AS) (o : Oper) : Option (AS × Ob) :=
  match o.op with
  | .build t parts => (match (tl T t).ty, placesF T (tl T t).und with
    | some (.pr .int (.ar r .int)), some pl => (match fillF S pl (List.replicate (r + 2) (.int fun _ => 0)) parts.toList with
      | some cs => (allI' cs).map fun l => (S.put o.dst (.agg (.pr .int (.ar r .int)) fun _ => (getI .int (l ()) 0, List.drop 1 (l ()))), none)
      | none => none)
    | _, _ => none)
  | .box e x => (match (tl T e).ty with
    | some (.pr .int (.ar r .int)) => if ((r + 2).ble 1024) = true then (viewD [] (.pr .int (.ar r .int)) (S.ev x)).map fun y => (S.new o.dst (.eptr S.H.length (fun _ => 0) 0) (.arr e (r + 1) .int fun _ => (y ()).1 :: (y ()).2), none) else none
    | _ => none)
  | .alloc e => (match (tl T e).ty with
    | some (.pr .int (.ar r .int)) => if ((r + 2).ble 1024) = true then some (S.new o.dst (.eptr S.H.length (fun _ => 0) 0) (.arr e (r + 1) .int fun _ => 0 :: List.replicate (r + 1) 0), none) else none
    | _ => none)
  | .store t p x => (match S.ev p with
    | .eptr n _ 0 => (match S.H[n]?, (tl T t).ty with
      | some (some (.arr e q .int _)), some (.pr .int (.ar r .int)) => if (q == r + 1 && (tl T t).size == q + 1) = true then (viewD [] (.pr .int (.ar r .int)) (S.ev x)).map fun y => ({ S with H := S.H.set n (some (.arr e q .int fun _ => (y ()).1 :: (y ()).2)) }.put o.dst .undef, none) else none
      | _, _ => none)
    | _ => none)
  | .call c => (match c.callee, c.argTypes.toList, c.args.toList with
    | .builtin .clear, [t], [x] => (match (tl T t).und, S.ev x with
      | .slice e0, .sub n lo hi k => (match S.H[n]?, (tl T e0).ty with
        | some (some (.row e .int l)), some .int => if (k == 1) = true then some ({ S with H := S.H.set n (some (.row e .int fun _ => cpy (l ()) (List.replicate (hi () - lo ()).toNat 0) (lo ()) (hi ()))) }.put o.dst .undef, none) else none
        | _, _ => none)
      | _, _ => none)
    | _, _, _ => none)
  | _ => none
def memF (T : Tab) (S : AS) (o : Oper) : Option (AS × Ob) :=
  match memA T S o with
  | some r => some r
  | none => (match memS T S o with
    | some r => some r
    | none => memG T S o)
end Go.Proofs.Ytemdajfcfmefnaa.M
/- Operations that make memory or write it do as is reckoned: variables and cells. -/
namespace Go.Proofs.Ytemdajfcfmefnaa.M
open Go.RowKit Abs
set_option linter.unusedVariables false
set_option linter.unusedSimpArgs false

theorem castSl {u t : Ty} {l : Unit → List u.den} {y : Unit → List t.den} (h : castT (.sl u) (.sl t) l = some y) : ∃ e : u = t, y = fun _ => (e ▸ l () : List t.den) := by
  obtain ⟨e, rfl⟩ := castT_eq h
  cases e
  exact ⟨rfl, rfl⟩
section
variable {P : Program} {T : Tab} {w0 w w1 : World} {B : Nat → Prop} {hd : Nat → Value} {S : AS} {a : Act} {val : Nat → Bd}
theorem VRelL.app {ok : Nat → Prop} {N : Nat} : ∀ {xs ys : List AV} {vs us : List Value}, VRelL ok w N val xs vs → VRelL ok w N val ys us → VRelL ok w N val (xs ++ ys) (vs ++ us)
  | [], ys, [], us, _, h => h
  | [], _, _ :: _, _, h, _ => by simp [VRelL] at h
  | _ :: _, _, [], _, h, _ => by simp [VRelL] at h
  | x :: xs, ys, v :: vs, us, h, h' => by simp only [List.cons_append, VRelL] at h ⊢; exact ⟨h.1, VRelL.app h.2 h'⟩
theorem junkL {ok : Nat → Prop} {N : Nat} : ∀ (cs : List Value), VRelL ok w N val (List.replicate cs.length .junk) cs
  | [] => by simp [VRelL]
  | c :: cs => by simp only [List.length_cons, List.replicate_succ, VRelL, VRel]; exact ⟨trivial, junkL cs⟩
theorem rep_cellsU {ok : Nat → Prop} {N : Nat} : ∀ {t : Ty} {x : Unit → t.den} {cs : List Value}, Rep ok w t (x ()) cs → VRelL ok w N val (cellsU t x) cs
  | .int, x, cs, h => by unfold Rep at h; subst h; simp [cellsU, VRelL, VRel]
  | .bool, x, cs, h => by unfold Rep at h; subst h; simp [cellsU, VRelL, VRel]
  | .str, x, cs, h => by unfold Rep at h; subst h; simp [cellsU, VRelL, VRel]
  | .u64, x, cs, h => by unfold Rep at h; subst h; simp [cellsU, VRelL, VRel]
  | .sl t, x, cs, h => by
    have hl := h.length
    match cs, hl with
    | [v], _ => simp only [cellsU, VRelL, VRel]; exact ⟨h, trivial⟩
  | .pr a b, x, cs, h => by
    unfold Rep at h
    obtain ⟨c1, c2, rfl, h1, h2⟩ := h
    unfold cellsU
    exact VRelL.app (rep_cellsU (x := fun _ => (x ()).1) h1) (rep_cellsU (x := fun _ => (x ()).2) h2)
  | .ar k t, x, cs, h => by
    have hl := h.length
    unfold cellsU
    have := junkL (w := w) (val := val) (ok := ok) (N := N) cs
    rw [hl] at this
    exact this
theorem row_slice {base : Nat} {e : TypeId} {k : Nat} {v : Value} {n : Nat} {xs : List Value} (h : w.ownsRow base e k v n xs) : ∃ ad cap, v = .slice ad n cap := by
  rcases h.2 with ⟨h2, h3⟩ | ⟨g, cap, cur, h2, _⟩
  · exact ⟨_, _, by rw [h2, h3]⟩
  · exact ⟨_, _, h2⟩
theorem cells_rel (hR : Rl w0 B hd S a w val) {x : AV} {v : Value} {cs : List AV} (hx : VRel (okF S.H val) w S.H.length val x v) (hc : cellsOf S.H x = some cs) :
    VRelL (okF S.H val) w S.H.length val cs v.cells.toList ∧ ∀ u ∈ v.cells.toList, u.oneCell' = true := by
  have one : ∀ (y : AV), VRel (okF S.H val) w S.H.length val y v → v.oneCell' = true → v.cells = #[v] → cs = [y] →
      VRelL (okF S.H val) w S.H.length val cs v.cells.toList ∧ ∀ u ∈ v.cells.toList, u.oneCell' = true := by
    intro y hy h1 h2 h3
    subst h3
    rw [h2]
    exact ⟨by simp [VRelL]; exact hy, fun u hu => by simp at hu; subst hu; exact h1⟩
  cases x <;> simp only [cellsOf, Option.some.injEq] at hc <;> (try (cases hc; done))
  case agg t d =>
    simp only [VRel] at hx
    obtain ⟨vs, rfl, hr⟩ := hx
    subst hc
    exact ⟨by simp only [Value.cells]; exact rep_cellsU hr, fun u hu => hr.one u (by simpa [Value.cells] using hu)⟩
  case cells l =>
    simp only [VRel] at hx
    obtain ⟨vs, rfl, hr, h1⟩ := hx
    subst hc
    exact ⟨by simpa [Value.cells] using hr, fun u hu => h1 u (by simpa [Value.cells] using hu)⟩
  case int k => have hx' := hx; simp only [VRel] at hx'; exact one _ hx (by rw [hx']; rfl) (by rw [hx']; rfl) hc.symm
  case lit k => have hx' := hx; simp only [VRel] at hx'; exact one _ hx (by rw [hx']; rfl) (by rw [hx']; rfl) hc.symm
  case bool k => have hx' := hx; simp only [VRel] at hx'; exact one _ hx (by rw [hx']; rfl) (by rw [hx']; rfl) hc.symm
  case str k => have hx' := hx; simp only [VRel] at hx'; exact one _ hx (by rw [hx']; rfl) (by rw [hx']; rfl) hc.symm
  case u8 k => have hx' := hx; simp only [VRel] at hx'; exact one _ hx (by rw [hx']; rfl) (by rw [hx']; rfl) hc.symm
  case u64 k => have hx' := hx; simp only [VRel] at hx'; exact one _ hx (by rw [hx']; rfl) (by rw [hx']; rfl) hc.symm
  case sl t l =>
    have hx' := hx
    simp only [VRel] at hx'
    have h1 := hx'.one v (by simp)
    have e : ∃ ad n c, v = .slice ad n c := by
      unfold Rep at hx'
      obtain ⟨ad, cap, he, _⟩ := hx'
      simp at he
      exact ⟨_, _, _, he⟩
    obtain ⟨ad, n, c, e⟩ := e
    exact one _ hx h1 (by rw [e]; rfl) hc.symm
  case ref n =>
    have hx' := hx
    simp only [VRel] at hx'
    split at hc
    · rename_i e t l hH
      cases hc
      obtain ⟨xs, h1, _⟩ := hR.heap.blk n _ hH
      obtain ⟨ad, c, e⟩ := row_slice h1
      exact one _ hx (by rw [hx'.2, e]; rfl) (by rw [hx'.2, e]; rfl) rfl
    · rename_i e e2 t l hH
      cases hc
      obtain ⟨h1, _⟩ := hR.heap.blk n _ hH
      obtain ⟨ad, c, e⟩ := row_slice h1
      exact one _ hx (by rw [hx'.2, e]; rfl) (by rw [hx'.2, e]; rfl) rfl
    · cases hc
  case elem n i =>
    have hx' := hx
    simp only [VRel] at hx'
    split at hc
    · rename_i e e2 t l hH
      cases hc
      obtain ⟨h1, h2, _⟩ := hR.heap.blk n _ hH
      have hhs : (val n).hs.length = (l ()).length := by have := h1.1; simpa using this
      have hlt : (i ()).toNat < (l ()).length := by rw [← hhs]; exact (List.getElem?_eq_some_iff.1 hx'.2.2).1
      obtain ⟨h, xs, m1, m2, m3⟩ := h2 _ _ (getR_get (i := i ()) hx'.2.1 (by omega))
      rw [hx'.2.2] at m1
      cases m1
      obtain ⟨ad, c, e⟩ := row_slice m2
      exact one _ hx (by rw [e]; rfl) (by rw [e]; rfl) rfl
    · cases hc
  case ptr n i => have hx' := hx; simp only [VRel] at hx'; obtain ⟨_, g, _, e⟩ := hx'; exact one _ hx (by rw [e]; rfl) (by rw [e]; rfl) hc.symm
  case sub n lo hi k => have hx' := hx; simp only [VRel] at hx'; obtain ⟨_, _, _, ad, len, cap, _, _, e⟩ := hx'; exact one _ hx (by rw [e]; rfl) (by rw [e]; rfl) hc.symm
  case eptr n i k => have hx' := hx; simp only [VRel] at hx'; obtain ⟨h0, g, l, c, h1, _, _, e⟩ := hx'; exact one _ hx (by rw [e]; rfl) (by rw [e]; rfl) hc.symm
  case eelem n i j k => have hx' := hx; simp only [VRel] at hx'; obtain ⟨h0, h00, g, l, c, h1, _, _, e⟩ := hx'; exact one _ hx (by rw [e]; rfl) (by rw [e]; rfl) hc.symm
  case iptr t d => have hx' := hx; simp only [VRel] at hx'; obtain ⟨b, o, cs', e, _⟩ := hx'; exact one _ hx (by rw [e]; rfl) (by rw [e]; rfl) hc.symm
  case ibox l i => have hx' := hx; simp only [VRel] at hx'; obtain ⟨b, us, e, _⟩ := hx'; exact one _ hx (by rw [e]; rfl) (by rw [e]; rfl) hc.symm
  case fn f cap => have hx' := hx; simp only [VRel] at hx'; obtain ⟨vs, e, _⟩ := hx'; exact one _ hx (by rw [e]; rfl) (by rw [e]; rfl) hc.symm
  case fnr f cap => have hx' := hx; simp only [VRel] at hx'; obtain ⟨fs, vs, e, _⟩ := hx'; exact one _ hx (by rw [e]; rfl) (by rw [e]; rfl) hc.symm
  case ifr f cap => have hx' := hx; simp only [VRel] at hx'; obtain ⟨u, e, _⟩ := hx'; exact one _ hx (by rw [e]; rfl) (by rw [e]; rfl) hc.symm
  case nilsl => have hx' := hx; simp only [VRel] at hx'; exact one _ hx (by rw [hx']; rfl) (by rw [hx']; rfl) hc.symm
theorem zc_rel {ok : Nat → Prop} {N : Nat} : ∀ t : Ty, VRelL ok w N val (zcU t) (zcellsOf t) ∧ ∀ u ∈ zcellsOf t, u.oneCell' = true
  | .int => by simp [zcU, zcellsOf, VRelL, VRel]; rfl
  | .bool => by simp [zcU, zcellsOf, VRelL, VRel]; rfl
  | .str => by simp [zcU, zcellsOf, VRelL, VRel]; rfl
  | .u64 => by simp [zcU, zcellsOf, VRelL, VRel]; rfl
  | .sl t => by simp [zcU, zcellsOf, VRelL, VRel]; rfl
  | .pr a b => by
    unfold zcU zcellsOf
    exact ⟨VRelL.app (zc_rel a).1 (zc_rel b).1, fun u hu => by exact (List.mem_append.1 hu).elim ((zc_rel (ok := ok) (N := N) a).2 u) ((zc_rel (ok := ok) (N := N) b).2 u)⟩
  | .ar k t => by
    have hl : (zcellsOf (.ar k t)).length = (k + 1) * t.n := (zrep (ok := ok) (w := w) (.ar k t)).length
    have := junkL (w := w) (val := val) (ok := ok) (N := N) (zcellsOf (.ar k t))
    rw [hl] at this
    exact ⟨this, fun u hu => (zrep (ok := ok) (w := w) (.ar k t)).one u hu⟩
theorem fresh_box (hR : Rl w0 B hd S a w val) {e : TypeId} {cs : List AV} {cur : Array Value} (h1 : VRelL (okF S.H val) w S.H.length val cs cur.toList) (h2 : ∀ u ∈ cur.toList, u.oneCell' = true) :
    Rl w0 B hd { S with H := S.H ++ [some (.box e cs)] } a (w.alloc (.cells cur e)) (upd val S.H.length ⟨.pointer (some ⟨w.heap.size, 0, none⟩), [], [w.heap.size]⟩) := by
  have hb : Below w.heap.size w (w.alloc (.cells cur e)) := (Below.refl _ _).alloc (Nat.le_refl _) _
  refine hR.fresh hb [] (fun g hg => .inl ?_) fun val' hv hd hok => ?_
  · simp only [List.mem_singleton] at hg
    subst hg
    exact ⟨Nat.le_refl _, by show w.heap.size < (w.heap.push _).size; simp⟩
  · refine ⟨w.heap.size, cur, rfl, heap_alloc_new _ _, h1.keep ⟨hb.size, hok, by omega, fun m hm => by rw [hv m hm], fun m hm => by rw [hv m hm]⟩, h2, rfl⟩
theorem box_step (hR : Rl w0 B hd S a w val) {o : Oper} {e : TypeId} {x : Operand} (hop : o.op = .box e x) {cs : List AV} (hc : cellsOf S.H (S.ev x) = some cs) {next : Act → World → Prop} {Q : Exit → Act → World → Prop}
    (hn : ∀ a' w' val', Rl w0 B hd (S.new o.dst (.ptr S.H.length 0) (.box e cs)) a' w' val' → next a' w') : o.wp P a w next Q := by
  obtain ⟨h1, h2⟩ := cells_rel hR (hR.ev x) hc
  have hF := fresh_box hR (e := e) h1 h2
  refine wp_of_value (v := .pointer (some ⟨w.heap.size, 0, none⟩)) (w1 := w.alloc (.cells (a.eval x).cells e)) ?_ (hn _ _ _ (hF.put o.dst (by simp only [VRel]; exact ⟨by simp, w.heap.size, by rw [upd_self], rfl⟩)))
  obtain ⟨dst, op, type, pos, after, guard⟩ := o
  simp only at hop
  subst hop
  simp [execOp, Instr.box, newVar, newRow]
theorem alloc_step (hT : TOk P T) (hR : Rl w0 B hd S a w val) {o : Oper} {e : TypeId} (hop : o.op = .alloc e) {tt : Ty} (ht : (tl T e).ty = some tt) {next : Act → World → Prop} {Q : Exit → Act → World → Prop}
    (hn : ∀ a' w' val', Rl w0 B hd (S.new o.dst (.ptr S.H.length 0) (.box e (zcU tt))) a' w' val' → next a' w') : o.wp P a w next Q := by
  obtain ⟨i, z, hi, hz, hsz, hby, hzc⟩ := elemOk_info (hT.ty ht).2.1
  obtain ⟨h1, h2⟩ := zc_rel (w := w) (ok := okF S.H val) (N := S.H.length) (val := val) tt
  rw [← hzc] at h1 h2
  have hF := fresh_box hR (e := e) h1 h2
  refine wp_of_value (v := .pointer (some ⟨w.heap.size, 0, none⟩)) (w1 := w.alloc (.cells z.cells e)) ?_ (hn _ _ _ (hF.put o.dst (by simp only [VRel]; exact ⟨by simp, w.heap.size, by rw [upd_self], rfl⟩)))
  obtain ⟨dst, op, type, pos, after, guard⟩ := o
  simp only at hop
  subst hop
  simp [execOp, Instr.alloc, newVar, newRow, zeroValue, typeInfo, hi, hz]
theorem VRelL.drop {ok : Nat → Prop} {N : Nat} : ∀ {xs : List AV} {vs : List Value} (i : Nat), VRelL ok w N val xs vs → VRelL ok w N val (xs.drop i) (vs.drop i)
  | xs, vs, 0, h => h
  | [], [], i + 1, _ => by simp [VRelL]
  | [], _ :: _, _ + 1, h => by simp [VRelL] at h
  | _ :: _, [], _ + 1, h => by simp [VRelL] at h
  | x :: xs, v :: vs, i + 1, h => by simp only [VRelL] at h; simpa using VRelL.drop i h.2
theorem VRelL.take {ok : Nat → Prop} {N : Nat} : ∀ {xs : List AV} {vs : List Value} (i : Nat), VRelL ok w N val xs vs → VRelL ok w N val (xs.take i) (vs.take i)
  | xs, vs, 0, h => by simp [VRelL]
  | [], [], i + 1, _ => by simp [VRelL]
  | [], _ :: _, _ + 1, h => by simp [VRelL] at h
  | _ :: _, [], _ + 1, h => by simp [VRelL] at h
  | x :: xs, v :: vs, i + 1, h => by simp only [VRelL] at h; simp only [List.take_succ_cons, VRelL]; exact ⟨h.1, VRelL.take i h.2⟩
theorem storeBox_step (hT : TOk P T) (hR : Rl w0 B hd S a w val) {o : Oper} {t : TypeId} {p x : Operand} (hop : o.op = .store t p x) {n i : Nat} (hp : S.ev p = .ptr n i) {e : TypeId} {cs xs : List AV} (hH : S.H[n]? = some (some (.box e cs)))
    (hc : cellsOf S.H (S.ev x) = some xs) (hs : szOf P t = some xs.length) (hl : i + xs.length ≤ cs.length) {next : Act → World → Prop} {Q : Exit → Act → World → Prop}
    (hn : ∀ a' w' val', Rl w0 B hd ({ S with H := S.H.set n (some (.box e (splice cs i xs))) }.put o.dst .undef) a' w' val' → next a' w') : o.wp P a w next Q := by
  obtain ⟨h1, h2⟩ := cells_rel hR (hR.ev x) hc
  have hpv := hR.ev p
  rw [hp] at hpv
  simp only [VRel] at hpv
  obtain ⟨_, g, hv, hpe⟩ := hpv
  obtain ⟨g', cur, k1, k2, k3, k4, k5⟩ := hR.heap.blk n _ hH
  rw [hv] at k1
  cases k1
  have hl1 : (a.eval x).cells.size = xs.length := by have := h1.len; simpa using this
  have hl3 : cur.size = cs.length := by have := k3.len; simpa using this
  have hrun := store_run (P := P) (w := w) (t := t) (g := g) (o := i) (v := a.eval x) k2 (by rw [hs, hl1]) (by omega) h2
  have fr := setRow_frame w g (cur.toList.take i ++ (a.eval x).cells.toList ++ cur.toList.drop (i + (a.eval x).cells.size)).toArray
  have hW := hR.write (w1 := w.setRow g (cur.toList.take i ++ (a.eval x).cells.toList ++ cur.toList.drop (i + (a.eval x).cells.size)).toArray) (b' := .box e (splice cs i xs)) hH
    fr.1 fr.2.1 fr.2.2.1 fr.2.2.2 (fun k hk => setRow_other _ _ _ _ (fun e => hk (by rw [k5, e]; simp))) (fun K => by
      refine ⟨g, _, hv, setRow_heap w g cur _ e (0, 0) k2, ?_, ?_, k5⟩
      · refine VRelL.keep K ?_
        unfold splice
        rw [← hl1]
        exact VRelL.app (VRelL.app (k3.take i) h1) (k3.drop _)
      · intro u hu
        simp only [List.mem_append] at hu
        rcases hu with (hu | hu) | hu
        · exact k4 u (List.mem_of_mem_take hu)
        · exact h2 u hu
        · exact k4 u (List.mem_of_mem_drop hu))
  refine wp_of_skip (w1 := w.setRow g (cur.toList.take i ++ (a.eval x).cells.toList ++ cur.toList.drop (i + (a.eval x).cells.size)).toArray) ?_ (hn _ _ _ (hW.put o.dst (by simp only [VRel]; rfl)))
  obtain ⟨dst, op, type, pos, after, guard⟩ := o
  simp only at hop
  subst hop
  simp [execOp, hpe, hrun]
end
end Go.Proofs.Ytemdajfcfmefnaa.M
/- A struct or an array of given parts. -/
namespace Go.Proofs.Ytemdajfcfmefnaa.M
open Go.RowKit Abs
set_option linter.unusedSimpArgs false
set_option linter.unusedVariables false
set_option maxRecDepth 100000
set_option maxHeartbeats 4000000
theorem TOk.struct {P : Program} {T : Tab} (hT : TOk P T) {t : TypeId} {l : List (Nat × TypeId)} (h : (tl T t).und = .struct l) : ∃ fs : Array Field, P.underlying t = some (.struct fs) ∧ (fs.toList.map fun f => (f.offset, f.type)) = l := by
  have h1 := (hT.of h (by simp)).und
  rw [h] at h1
  unfold undB at h1
  cases hu : P.underlying t with
  | none => rw [hu] at h1; cases h1
  | some d =>
    rw [hu] at h1
    cases d <;> simp only [Bool.false_eq_true] at h1
    simp only [beq_iff_eq] at h1
    exact ⟨_, rfl, h1⟩
theorem TOk.sz {P : Program} {T : Tab} (hT : TOk P T) {t : TypeId} (h : ¬ (tl T t).size = 0) : szOf P t = some (tl T t).size := by
  rcases hT t with h1 | h1
  · rw [h1] at h; exact (h rfl).elim
  · exact h1.size
theorem set_rel {ok : Nat → Prop} {w : World} {N : Nat} {val : Nat → Bd} : ∀ {cs : List AV} {vs : List Value} {i : Nat} {c : AV} {v : Value}, VRelL ok w N val cs vs → VRel ok w N val c v → VRelL ok w N val (cs.set i c) (vs.set i v)
  | [], [], i, c, v, _, _ => by simp [VRelL]
  | [], _ :: _, _, _, _, h, _ => by simp [VRelL] at h
  | _ :: _, [], _, _, _, h, _ => by simp [VRelL] at h
  | x :: cs, u :: vs, 0, c, v, h, hv => by simp only [VRelL] at h; simp only [List.set_cons_zero, VRelL]; exact ⟨hv, h.2⟩
  | x :: cs, u :: vs, i + 1, c, v, h, hv => by simp only [VRelL] at h; simp only [List.set_cons_succ, VRelL]; exact ⟨h.1, set_rel h.2 hv⟩
section
variable {P : Program} {T : Tab} {w0 w w1 : World} {B : Nat → Prop} {hd : Nat → Value} {S : AS} {a : Act} {val : Nat → Bd}
theorem fill_sound (hR : Rl w0 B hd S a w val) {pl : Nat → Option (Nat × Nat)} : ∀ (parts : List (Nat × Operand)) {cs cs' : List AV} {c : Array Value}, VRelL (okF S.H val) w S.H.length val cs c.toList → (∀ u ∈ c.toList, u.oneCell' = true) → fillF S pl cs parts = some cs' →
    ∃ c' : Array Value, Instr.fill pl c (parts.map fun p => (p.1, a.eval p.2)) = some c' ∧ VRelL (okF S.H val) w S.H.length val cs' c'.toList ∧ ∀ u ∈ c'.toList, u.oneCell' = true
  | [], cs, cs', c, h1, h2, h => by
    cases h
    exact ⟨c, rfl, h1, h2⟩
  | (i, x) :: r, cs, cs', c, h1, h2, h => by
    unfold fillF at h
    split at h
    · rename_i off k hp hc
      split at h
      · rename_i hlt
        obtain ⟨e1, e2⟩ := cells_rel hR (hR.ev x) hc
        have hv : (a.eval x).cells.toList.length = 1 := by have := e1.len; simpa using this
        obtain ⟨v, hv1⟩ : ∃ v, (a.eval x).cells = #[v] := by
          match hq : (a.eval x).cells with
          | ⟨[]⟩ => rw [hq] at hv; simp at hv
          | ⟨[v]⟩ => exact ⟨v, rfl⟩
          | ⟨_ :: _ :: _⟩ => rw [hq] at hv; simp at hv
        rw [hv1] at e1 e2
        simp only [VRelL, and_true] at e1
        have hl := h1.len
        simp only [Array.length_toList] at hl
        have hlt' : off < cs.length := by simpa using hlt
        have hset : VRelL (okF S.H val) w S.H.length val (cs.set off k) (c.setIfInBounds off v).toList := by
          rw [Array.toList_setIfInBounds]
          exact set_rel h1 e1
        obtain ⟨c', f1, f2, f3⟩ := fill_sound hR r hset (fun u hu => by
          rw [Array.toList_setIfInBounds] at hu
          rcases List.mem_or_eq_of_mem_set hu with hu | rfl
          · exact h2 u hu
          · exact e2 u (by simp)) h
        refine ⟨c', ?_, f2, f3⟩
        simp only [List.map_cons, Instr.fill, hp, hv1]
        rw [if_neg (by simp; omega)]
        simpa using f1
      · cases h
    · cases h
theorem places_map {P : Program} {T : Tab} (hT : TOk P T) : ∀ (fs : List Field), (∀ f ∈ fs, ¬ (tl T f.type).size = 0) → fs.mapM (fun f => (P.info? f.type).map fun i => (f.offset, i.size)) = some (fs.map fun f => (f.offset, (tl T f.type).size))
  | [], _ => rfl
  | f :: fs, h => by
    have h1 := hT.sz (h f (by simp))
    unfold szOf at h1
    cases hi : P.info? f.type with
    | none => rw [hi] at h1; cases h1
    | some i =>
      rw [hi] at h1
      simp only [Option.map_some, Option.some.injEq] at h1
      simp [List.mapM_cons, hi, h1, places_map hT fs fun g hg => h g (by simp [hg])]
theorem built_fill (hT : TOk P T) {a : Act} {t : TypeId} {parts : Array (Nat × Operand)} {pl : Nat → Option (Nat × Nat)} {i : TypeInfo} {z : Value} {c' : Array Value} (hpl : placesF T (tl T t).und = some pl) (hi : P.info? t = some i) (hz : i.zero = some z) (f1 : Instr.fill pl z.cells (parts.toList.map fun p => (p.1, a.eval p.2)) = some c') :
    P.built t ((parts.map fun (p : Nat × Operand) => (p.1, a.eval p.2)).toList) = some c' := by
  rw [Array.toList_map]
  unfold Program.built
  unfold placesF at hpl
  split at hpl
  · rename_i l hu
    split at hpl
    · rename_i hall
      cases hpl
      obtain ⟨fs, hfs, hl⟩ := hT.struct hu
      rw [hi, hfs]
      simp only [hz]
      have hne : ∀ f ∈ fs.toList, ¬ (tl T f.type).size = 0 := fun f hf => by
        have := List.all_eq_true.1 hall (f.offset, f.type) (by rw [← hl]; exact List.mem_map.2 ⟨f, hf, rfl⟩)
        simpa using this
      rw [places_map hT _ hne]
      simp only
      rw [← f1]
      congr 1
      funext i
      rw [← hl, List.getElem?_map]
      simp [Option.map_map, Function.comp_def]
    · cases hpl
  · rename_i n e hu
    split at hpl
    · cases hpl
    · rename_i hne
      cases hpl
      have hu2 := arElem_und (hT.array hu)
      have h3 := hT.sz (t := e) (by simpa using hne)
      unfold szOf at h3
      cases hie : P.info? e with
      | none => rw [hie] at h3; cases h3
      | some ie =>
        rw [hie] at h3
        simp only [Option.map_some, Option.some.injEq] at h3
        rw [hi, hu2]
        simp only [hz, hie, h3]
        exact f1
  · cases hpl
theorem buildC_step (hT : TOk P T) (hR : Rl w0 B hd S a w val) {o : Oper} {t : TypeId} {parts : Array (Nat × Operand)} (hop : o.op = .build t parts) {V : AV} (hc : buildC T S t parts.toList = some V) {next : Act → World → Prop} {Q : Exit → Act → World → Prop}
    (hn : ∀ a' w' val', Rl w0 B hd (S.put o.dst V) a' w' val' → next a' w') : o.wp P a w next Q := by
  unfold buildC at hc
  split at hc
  · rename_i tt ht
    split at hc
    · rename_i pl hpl
      simp only [Option.map_eq_some_iff] at hc
      obtain ⟨cs', hf, rfl⟩ := hc
      obtain ⟨i, z, hi, hz, hsz, hby, hzc⟩ := elemOk_info (hT.ty ht).2.1
      obtain ⟨h1, h2⟩ := zc_rel (w := w) (ok := okF S.H val) (N := S.H.length) (val := val) tt
      rw [← hzc] at h1 h2
      obtain ⟨c', f1, f2, f3⟩ := fill_sound hR parts.toList h1 h2 hf
      have hb := built_fill hT (a := a) hpl hi hz f1
      refine wp_of_value (v := .agg c') (w1 := w) ?_ (hn _ _ _ (hR.put o.dst ?_))
      · obtain ⟨dst, op, type, pos, after, guard⟩ := o
        simp only at hop
        subst hop
        have := Go.run_build w t _ c' hb
        simp [execOp, this]
      · simp only [VRel]
        exact ⟨c'.toList, by simp, f2, f3⟩
    · cases hc
  · cases hc
theorem foldl_set (off : Nat) : ∀ (vs : List Value) (k : Nat) (c : Array Value), off + k + vs.length ≤ c.size → ((vs.zipIdx k).foldl (fun cs (p : Value × Nat) => cs.setIfInBounds (off + p.2) p.1) c).toList = c.toList.take (off + k) ++ vs ++ c.toList.drop (off + k + vs.length)
  | [], k, c, _ => by simp
  | v :: rest, k, c, h => by
    simp only [List.length_cons] at h
    have ih := foldl_set off rest (k + 1) (c.setIfInBounds (off + k) v) (by simp only [Array.size_setIfInBounds]; omega)
    rw [List.zipIdx_cons, List.foldl_cons, ih]
    have e := list_seg_step c.toList (off + k) v rest (by simp only [Array.length_toList]; omega)
    simpa [Array.toList_setIfInBounds, Nat.add_assoc] using e
theorem partsP_sound (hR : Rl w0 B hd S a w val) {total : Nat} {pl : Nat → Option (Nat × Nat)} : ∀ (l : List (Nat × TypeId)) (parts : List (Nat × Operand)) {off i : Nat} {ds : List AV} {done : List AV} {c : Array Value},
    (∀ k, (l[k]?).map (fun p => (p.1, (tl T p.2).size)) = pl (i + k) ∨ l[k]? = none) → c.size = total → off ≤ total → done.length = off → VRelL (okF S.H val) w S.H.length val done (c.toList.take off) → (∀ u ∈ c.toList.take off, u.oneCell' = true) →
    partsP T S total off i l parts = some ds →
    ∃ c' : Array Value, Instr.fill pl c (parts.map fun p => (p.1, a.eval p.2)) = some c' ∧ VRelL (okF S.H val) w S.H.length val (done ++ ds) c'.toList ∧ ∀ u ∈ c'.toList, u.oneCell' = true
  | [], [], off, i, ds, done, c, hpl, hsz, hle, hdl, h1, h2, h => by
    unfold partsP at h
    split at h
    · rename_i ho
      cases h
      have ho' : off = total := by simpa using ho
      have e : c.toList.take off = c.toList := List.take_of_length_le (by rw [Array.length_toList]; omega)
      rw [e] at h1 h2
      exact ⟨c, rfl, by simpa using h1, h2⟩
    · cases h
  | (o, ft) :: l, (j, x) :: r, off, i, ds, done, c, hpl, hsz, hle, hdl, h1, h2, h => by
    unfold partsP at h
    split at h
    · rename_i hc
      simp only [Bool.and_eq_true, beq_iff_eq] at hc
      obtain ⟨⟨rfl, rfl⟩, hne⟩ := hc
      split at h
      · rename_i cs hcs
        split at h
        · rename_i hl
          have hl' : cs.length = (tl T ft).size := by simpa using hl
          simp only [Option.map_eq_some_iff] at h
          obtain ⟨ds', hd', rfl⟩ := h
          obtain ⟨e1, e2⟩ := cells_rel hR (hR.ev x) hcs
          have hvl : (a.eval x).cells.size = cs.length := by have := e1.len; simpa using this
          have hp : pl j = some (o, (tl T ft).size) := by
            rcases hpl 0 with h | h
            · simpa using h.symm
            · simp at h
          have htot : o + (tl T ft).size ≤ total := by
            clear hpl hp
            have : ∀ (l : List (Nat × TypeId)) (r : List (Nat × Operand)) (off i : Nat) (ds : List AV), partsP T S total off i l r = some ds → off ≤ total := by
              intro l
              induction l with
              | nil =>
                intro r off i ds h
                cases r with
                | nil =>
                  unfold partsP at h
                  split at h
                  · rename_i ho; have : off = total := by simpa using ho
                    omega
                  · cases h
                | cons _ _ => unfold partsP at h; cases h
              | cons p l ih =>
                intro r off i ds h
                obtain ⟨o', ft'⟩ := p
                cases r with
                | nil => unfold partsP at h; cases h
                | cons q r =>
                  obtain ⟨j', x'⟩ := q
                  unfold partsP at h
                  split at h
                  · split at h
                    · split at h
                      · simp only [Option.map_eq_some_iff] at h
                        obtain ⟨ds', hd', rfl⟩ := h
                        have := ih _ _ _ _ hd'
                        omega
                      · cases h
                    · cases h
                  · cases h
            exact this _ _ _ _ _ hd'
          have hfs := foldl_set o (a.eval x).cells.toList 0 c (by rw [Array.length_toList]; omega)
          simp only [Nat.add_zero, Array.length_toList] at hfs
          generalize hc2 : ((a.eval x).cells.toList.zipIdx 0).foldl (fun cs (p : Value × Nat) => cs.setIfInBounds (o + p.2) p.1) c = c2 at hfs
          have hc2' : (a.eval x).cells.zipIdx.foldl (fun cs (c, j) => cs.setIfInBounds (o + j) c) c = c2 := by
            rw [← hc2, ← Array.foldl_toList, Array.toList_zipIdx]
          have hsz2 : c2.size = total := by
            have := congrArg List.length hfs
            simp only [Array.length_toList, List.length_append, List.length_take, List.length_drop] at this
            omega
          have hto : (c.toList.take o).length = o := by rw [List.length_take, Array.length_toList]; omega
          have htk : c2.toList.take (o + (tl T ft).size) = c.toList.take o ++ (a.eval x).cells.toList := by
            rw [hfs, List.take_append_of_le_length (by simp only [List.length_append, hto, Array.length_toList]; omega)]
            exact List.take_of_length_le (by simp only [List.length_append, hto, Array.length_toList]; omega)
          obtain ⟨c', f1, f2, f3⟩ := partsP_sound (pl := pl) hR l r (off := o + (tl T ft).size) (i := j + 1) (ds := ds') (done := done ++ cs) (c := c2)
            (fun k => by
              rcases hpl (k + 1) with h | h
              · exact .inl (by rw [show j + 1 + k = j + (k + 1) by omega, ← h]; simp)
              · exact .inr (by simpa using h)) hsz2 htot (by simp [hdl, hl']) (by rw [htk]; exact VRelL.app h1 e1) (by
                rw [htk]
                intro u hu
                rcases List.mem_append.1 hu with hu | hu
                · exact h2 u hu
                · exact e2 u hu) hd'
          refine ⟨c', ?_, by rw [← List.append_assoc]; exact f2, f3⟩
          simp only [List.map_cons, Instr.fill, hp]
          rw [if_neg (by simp only [ne_eq, Bool.or_eq_true, decide_eq_true_eq]; omega), hc2']
          exact f1
        · cases h
      · cases h
    · cases h
  | [], _ :: _, _, _, _, _, _, _, _, _, _, _, _, h => by unfold partsP at h; cases h
  | _ :: _, [], _, _, _, _, _, _, _, _, _, _, _, h => by unfold partsP at h; cases h
theorem buildP_step (hT : TOk P T) (hR : Rl w0 B hd S a w val) {o : Oper} {t : TypeId} {parts : Array (Nat × Operand)} (hop : o.op = .build t parts) {V : AV} (hc : buildP T S t parts.toList = some V) {next : Act → World → Prop} {Q : Exit → Act → World → Prop}
    (hn : ∀ a' w' val', Rl w0 B hd (S.put o.dst V) a' w' val' → next a' w') : o.wp P a w next Q := by
  unfold buildP at hc
  split at hc
  · rename_i l hu
    simp only [Option.map_eq_some_iff] at hc
    obtain ⟨cs', hf, rfl⟩ := hc
    have hE := hT.of hu (by simp)
    have hzs := hE.zsz
    rw [hu] at hzs
    unfold zszB at hzs
    simp only at hzs
    cases hi : P.info? t with
    | none => rw [hi] at hzs; cases hzs
    | some i =>
      rw [hi] at hzs
      simp only at hzs
      cases hz : i.zero with
      | none => rw [hz] at hzs; cases hzs
      | some z =>
        rw [hz] at hzs
        have hzs' : z.cells.size = (tl T t).size := by simpa using hzs
        have hall : (l.all fun p => !((tl T p.2).size == 0)) = true := by
          have : ∀ (l : List (Nat × TypeId)) (r : List (Nat × Operand)) (off i : Nat) (ds : List AV), partsP T S (tl T t).size off i l r = some ds → (l.all fun p => !((tl T p.2).size == 0)) = true := by
            intro l
            induction l with
            | nil => intro _ _ _ _ _; rfl
            | cons p l ih =>
              intro r off i ds h
              obtain ⟨o', ft'⟩ := p
              cases r with
              | nil => unfold partsP at h; cases h
              | cons q r =>
                obtain ⟨j', x'⟩ := q
                unfold partsP at h
                split at h
                · rename_i hcc
                  simp only [Bool.and_eq_true] at hcc
                  split at h
                  · split at h
                    · simp only [Option.map_eq_some_iff] at h
                      obtain ⟨ds', hd', rfl⟩ := h
                      rw [List.all_cons, ih _ _ _ _ hd', hcc.2]
                      rfl
                    · cases h
                  · cases h
                · cases h
          exact this _ _ _ _ _ hf
        have hpl : placesF T (tl T t).und = some (fun i => (l[i]?).map fun p => (p.1, (tl T p.2).size)) := by
          rw [hu]
          simp only [placesF]
          rw [if_pos hall]
        obtain ⟨c', f1, f2, f3⟩ := partsP_sound (T := T) (pl := fun i => (l[i]?).map fun p => (p.1, (tl T p.2).size)) hR l parts.toList (off := 0) (i := 0) (done := []) (c := z.cells) (fun k => .inl (by simp)) hzs' (Nat.zero_le _) rfl (by simp [VRelL]) (by simp) hf
        have hb := built_fill hT (a := a) hpl hi hz f1
        refine wp_of_value (v := .agg c') (w1 := w) ?_ (hn _ _ _ (hR.put o.dst ?_))
        · obtain ⟨dst, op, type, pos, after, guard⟩ := o
          simp only at hop
          subst hop
          have := Go.run_build w t _ c' hb
          simp [execOp, this]
        · simp only [VRel]
          exact ⟨c'.toList, by simp, by simpa using f2, f3⟩
  · cases hc
end
end Go.Proofs.Ytemdajfcfmefnaa.M
/- Operations that make memory or write it do as is reckoned: rows. -/
namespace Go.Proofs.Ytemdajfcfmefnaa.M
open Go.RowKit Abs
set_option linter.unusedVariables false
set_option linter.unusedSimpArgs false

section
variable {P : Program} {T : Tab} {w0 w w1 : World} {B : Nat → Prop} {hd : Nat → Value} {S : AS} {a : Act} {val : Nat → Bd}
theorem repL_ones {ok : Nat → Prop} {t : Ty} {l : List t.den} {news : List Value} (hr : RepL ok w t l news) : ∀ v ∈ news, v.oneCell' = true := by
  intro v hv
  obtain ⟨j, hj⟩ := List.mem_iff_getElem?.1 hv
  have hp := t.n_pos
  have hlt : j < l.length * t.n := by rw [← hr.1]; exact (List.getElem?_eq_some_iff.1 hj).1
  have hq : j / t.n < l.length := by rw [Nat.div_lt_iff_lt_mul hp]; exact hlt
  refine (hr.2 (j / t.n) l[j / t.n] (by simp [hq])).one v (List.mem_of_getElem? (i := j % t.n) ?_)
  rw [List.getElem?_take, if_pos (Nat.mod_lt _ hp), List.getElem?_drop]
  rw [show j / t.n * t.n + j % t.n = j by rw [Nat.mul_comm]; exact Nat.div_add_mod j t.n]
  exact hj
theorem src_rel (hR : Rl w0 B hd S a w val) {tt : Ty} {x : AV} {u : Value} (hx : VRel (okF S.H val) w S.H.length val x u) {y : Unit → List tt.den} (h : srcSl S.H tt x = some y) :
    ∃ ad c, u = .slice ad (y ()).length c ∧ (y () = [] ∨ ∃ a0 news, ad = some a0 ∧ RepL (okF S.H val) w tt (y ()) news ∧ (∀ j v, news[j]? = some v → w.cell? (a0.add j) = some v) ∧ ∀ v ∈ news, v.oneCell' = true) := by
  have own : ∀ {e : TypeId} {t : Ty} {l : List t.den} {v : Value} {xs : List Value}, w.ownsRow 0 e t.n v l.length xs → RepL (okF S.H val) w t l xs →
      ∃ ad c, v = .slice ad l.length c ∧ (l = [] ∨ ∃ a0 news, ad = some a0 ∧ RepL (okF S.H val) w t l news ∧ (∀ j v, news[j]? = some v → w.cell? (a0.add j) = some v) ∧ ∀ v ∈ news, v.oneCell' = true) := by
    intro e t l v xs h1 h2
    rcases h1.2 with ⟨h3, h4⟩ | ⟨g, cap, cur, h3, _⟩
    · exact ⟨none, 0, by rw [h3, h4], .inl (List.eq_nil_of_length_eq_zero h4)⟩
    · exact ⟨_, cap, h3, .inr ⟨_, xs, rfl, h2, h1.cells (g := g) (by rw [h3]; rfl), repL_ones h2⟩⟩
  unfold srcSl at h
  split at h
  · rename_i t l
    simp only [VRel] at hx
    obtain ⟨rfl, rfl⟩ := castSl h
    unfold Rep at hx
    obtain ⟨ad, cap, he, _, _, h4⟩ := hx
    simp at he
    refine ⟨ad, cap, he, ?_⟩
    rcases h4 with h4 | ⟨b, o, xs, rfl, _, _, h7, h8, h9⟩
    · exact .inl h4
    · exact .inr ⟨_, xs, rfl, ⟨h7, h9⟩, fun j v hj => by rw [Addr.add_lit]; exact h8 j v hj, repL_ones ⟨h7, h9⟩⟩
  · cases h
    simp only [VRel] at hx
    exact ⟨none, 0, hx, .inl rfl⟩
  · rename_i n
    split at h
    · rename_i e t l hH
      obtain ⟨rfl, rfl⟩ := castSl h
      simp only [VRel] at hx
      obtain ⟨xs, h1, h2, _⟩ := hR.heap.blk _ _ hH
      rw [hx.2]
      exact own h1 h2
    · cases h
  · rename_i n i
    split at h
    · rename_i e e2 t l hH
      obtain ⟨rfl, rfl⟩ := castSl h
      simp only [VRel] at hx
      obtain ⟨h1, h2, _⟩ := hR.heap.blk _ _ hH
      have hhs : (val n).hs.length = (l ()).length := by have := h1.1; simpa using this
      have hlt : (i ()).toNat < (l ()).length := by rw [← hhs]; exact (List.getElem?_eq_some_iff.1 hx.2.2).1
      obtain ⟨h, xs, m1, m2, m3⟩ := h2 _ _ (getR_get (i := i ()) hx.2.1 (by omega))
      rw [hx.2.2] at m1
      cases m1
      exact own m2 m3
    · cases h
  · rename_i n lo hi k
    split at h
    · rename_i e t l hH
      cases hk : (k == t.n) with
      | false => rw [hk] at h; cases h
      | true =>
        rw [hk] at h
        simp only [↓reduceIte] at h
        simp only [beq_iff_eq] at hk
        subst hk
        obtain ⟨rfl, rfl⟩ := castSl h
        simp only [VRel] at hx
        obtain ⟨_, h0, h1, ad, len, cap, hd, h3, h4⟩ := hx
        obtain ⟨xs, k1, k2, _⟩ := hR.heap.blk _ _ hH
        obtain ⟨ad', c', e1, e2⟩ := own k1 k2
        rw [hd] at e1
        simp only [Value.slice.injEq] at e1
        obtain ⟨rfl, rfl, rfl⟩ := e1
        have hlen : (subL (l ()) (lo ()) (hi ())).length = (hi ()).toNat - (lo ()).toNat := by unfold subL; rw [List.length_drop, List.length_take]; omega
        refine ⟨_, _, by rw [h4, ← hlen], ?_⟩
        by_cases hne : lo () = hi ()
        · left; apply List.eq_nil_of_length_eq_zero; rw [hlen]; omega
        · rcases e2 with e2 | ⟨a0, news, rfl, n1, n2, n3⟩
          · left; rw [e2]; simp [subL]
          · right
            have hr := repL_sub n1 h0 h1 h3
            have hc2 : ¬ cap = (lo ()).toNat := by
              have := k1.2
              rcases this with ⟨q1, q2⟩ | ⟨g, c, cur, q1, _, _, q4, _⟩
              · omega
              · rw [hd] at q1; cases q1; omega
            refine ⟨a0.add ((lo ()).toNat * t.n), _, by rw [if_neg hc2]; rfl, hr, fun j v hj => ?_, repL_ones hr⟩
            rw [List.getElem?_take] at hj
            split at hj
            · rw [List.getElem?_drop] at hj
              have := n2 _ v hj
              rcases k1.2 with ⟨q1, q2⟩ | ⟨g, c, cur, q1, _⟩
              · rw [hd] at q1; cases q1
              · rw [hd] at q1; cases q1
                simp only [Addr.add_lit, Nat.zero_add] at this ⊢
                exact this
            · cases hj
    · cases h
  · cases h
/-- What is viewed as a datum: 'ok' blocks are those of the data, and those of the blocks that are looked into. -/
theorem viewSl_rep (hR : Rl w0 B hd S a w val) {H : Hp} {ok2 : Nat → Prop} (hH : ∀ n b, H[n]? = some (some b) → S.H[n]? = some (some b) ∧ ∀ g ∈ (val n).F, ok2 g) (hk : ∀ b, okF S.H val b → ok2 b)
    {t : Ty} {x : AV} {v : Value} {y : Unit → List t.den} (hx : VRel (okF S.H val) w S.H.length val x v) (h : viewSl H t x = some y) : Rep ok2 w (.sl t) (y ()) [v] := by
  unfold viewSl at h
  have rowR : ∀ {n : Nat} {e : TypeId} {u : Ty} {l : Unit → List u.den}, H[n]? = some (some (.row e u l)) → Rep ok2 w (.sl u) (l ()) [(val n).v] := by
    intro n e u l hn
    obtain ⟨h1, h2⟩ := hH _ _ hn
    obtain ⟨xs, k1, k2, k3⟩ := hR.heap.blk _ _ h1
    exact row_rep k1 ⟨k2.1, fun i z hz => (k2.2 i z hz).weak hk⟩ fun g hg => h2 g (by rw [k3, hg]; simp)
  split at h
  · rename_i n
    simp only [VRel] at hx
    split at h
    · rename_i e u l hn
      obtain ⟨rfl, rfl⟩ := castSl h
      rw [hx.2]
      exact rowR hn
    · rename_i e e2 u l hn
      obtain ⟨he, rfl⟩ := castSl h
      subst he
      rw [hx.2]
      obtain ⟨h1, h2⟩ := hH _ _ hn
      obtain ⟨k1, k2, k3, k4⟩ := hR.heap.blk _ _ h1
      have hhs : (val n).hs.length = (l ()).length := by have := k1.1; simpa using this
      refine row_rep (t := .sl u) (xs := (val n).hs) k1 ⟨by rw [hhs]; simp [Ty.n], fun i z hz => ?_⟩ fun g hg => h2 g ((k3 g).2 (.inl hg))
      obtain ⟨h, xs, m1, m2, m3⟩ := k2 i z hz
      have e1 : ((val n).hs.drop (i * (Ty.sl u).n)).take (Ty.sl u).n = [h] := by
        have hlt := (List.getElem?_eq_some_iff.1 m1)
        obtain ⟨hl, hg⟩ := hlt
        simp only [Ty.n, Nat.mul_one]
        rw [List.drop_eq_getElem_cons hl, hg]
        rfl
      rw [e1]
      exact row_rep m2 ⟨m3.1, fun i z hz => (m3.2 i z hz).weak hk⟩ fun g hg => h2 g ((k3 g).2 (.inr ⟨h, List.mem_of_getElem? m1, hg⟩))
    · cases h
  · unfold srcSl at h
    split at h
    · rename_i u l _
      simp only [VRel] at hx
      obtain ⟨rfl, rfl⟩ := castSl h
      exact hx.weak hk
    · cases h
      simp only [VRel] at hx
      subst hx
      unfold Rep
      exact ⟨none, 0, rfl, Nat.le_refl _, by simp [maxLen], .inl rfl⟩
    · rename_i hno
      exact absurd rfl (hno _)
    · rename_i n i _
      simp only [VRel] at hx
      split at h
      · rename_i e e2 u l hn
        obtain ⟨rfl, rfl⟩ := castSl h
        obtain ⟨h1, h2⟩ := hH _ _ hn
        obtain ⟨k1, k2, k3, k4⟩ := hR.heap.blk _ _ h1
        have hhs : (val n).hs.length = (l ()).length := by have := k1.1; simpa using this
        have hlt : (i ()).toNat < (l ()).length := by rw [← hhs]; exact (List.getElem?_eq_some_iff.1 hx.2.2).1
        obtain ⟨h, xs, m1, m2, m3⟩ := k2 _ _ (getR_get (i := i ()) hx.2.1 (by omega))
        rw [hx.2.2] at m1
        cases m1
        exact row_rep m2 ⟨m3.1, fun i z hz => (m3.2 i z hz).weak hk⟩ fun g hg => h2 g ((k3 g).2 (.inr ⟨v, List.mem_of_getElem? hx.2.2, hg⟩))
      · cases h
    · rename_i n lo hi k _
      simp only [VRel] at hx
      split at h
      · rename_i e u l hn
        cases hkk : (k == u.n) with
        | false => rw [hkk] at h; cases h
        | true =>
          rw [hkk] at h
          simp only [↓reduceIte] at h
          simp only [beq_iff_eq] at hkk
          subst hkk
          obtain ⟨rfl, rfl⟩ := castSl h
          have hr := rowR hn
          have hr' := hr
          unfold Rep at hr'
          obtain ⟨ad, cap, he, _⟩ := hr'
          simp only [List.cons.injEq, and_true] at he
          have hl : hi () ≤ ((l ()).length : Int) := by
            obtain ⟨_, _, _, ad', len', cap', hd, h3, _⟩ := hx
            rw [hd] at he
            cases he
            exact h3
          exact rep_sub hr hx.2 hl
      · cases h
    · cases h
theorem viewC_rep (hR : Rl w0 B hd S a w val) {H : Hp} {ok2 : Nat → Prop} (hH : ∀ n b, H[n]? = some (some b) → S.H[n]? = some (some b) ∧ ∀ g ∈ (val n).F, ok2 g) (hk : ∀ b, okF S.H val b → ok2 b) :
    ∀ {t : Ty} {xs r : List AV} {y : Unit → t.den} {cs : List Value}, viewC H t xs = some (y, r) → VRelL (okF S.H val) w S.H.length val xs cs → ∃ c1 c2, cs = c1 ++ c2 ∧ Rep ok2 w t (y ()) c1 ∧ VRelL (okF S.H val) w S.H.length val r c2
  | .int, xs, r, y, cs, h, hx => by
    unfold viewC at h
    split at h
    · cases h
      match cs, hx with
      | v :: cs, hx => simp only [VRelL, VRel] at hx; exact ⟨[v], cs, rfl, by unfold Rep; rw [hx.1], hx.2⟩
      | [], hx => simp [VRelL] at hx
    · cases h
  | .str, xs, r, y, cs, h, hx => by
    unfold viewC at h
    split at h
    · cases h
      match cs, hx with
      | v :: cs, hx => simp only [VRelL, VRel] at hx; exact ⟨[v], cs, rfl, by unfold Rep; rw [hx.1], hx.2⟩
      | [], hx => simp [VRelL] at hx
    · cases h
  | .u64, xs, r, y, cs, h, hx => by
    unfold viewC at h
    split at h
    · cases h
      match cs, hx with
      | v :: cs, hx => simp only [VRelL, VRel] at hx; exact ⟨[v], cs, rfl, by unfold Rep; rw [hx.1], hx.2⟩
      | [], hx => simp [VRelL] at hx
    · cases h
  | .bool, xs, r, y, cs, h, hx => by
    unfold viewC at h
    split at h
    · simp only [Option.map_eq_some_iff, Prod.mk.injEq] at h
      obtain ⟨z, hz, rfl, rfl⟩ := h
      match cs, hx with
      | v :: cs, hx => simp only [VRelL] at hx; exact ⟨[v], cs, rfl, by unfold Rep; rw [asB_rel hz hx.1], hx.2⟩
      | [], hx => simp [VRelL] at hx
    · cases h
  | .sl t, xs, r, y, cs, h, hx => by
    unfold viewC at h
    split at h
    · simp only [Option.map_eq_some_iff, Prod.mk.injEq] at h
      obtain ⟨z, hz, rfl, rfl⟩ := h
      match cs, hx with
      | v :: cs, hx => simp only [VRelL] at hx; exact ⟨[v], cs, rfl, viewSl_rep hR hH hk hx.1 hz, hx.2⟩
      | [], hx => simp [VRelL] at hx
    · cases h
  | .pr p q, xs, r, y, cs, h, hx => by
    unfold viewC at h
    split at h
    · rename_i x1 r1 h1
      split at h
      · rename_i x2 r2 h2
        cases h
        obtain ⟨c1, c2, rfl, k1, k2⟩ := viewC_rep hR hH hk h1 hx
        obtain ⟨d1, d2, rfl, m1, m2⟩ := viewC_rep hR hH hk h2 k2
        exact ⟨c1 ++ d1, d2, by simp, by unfold Rep; exact ⟨c1, d1, rfl, k1, m1⟩, m2⟩
      · cases h
    · cases h
  | .ar k t, xs, r, y, cs, h, hx => by
    unfold viewC at h
    cases h
theorem VRelL.nil_r {ok : Nat → Prop} {N : Nat} {cs : List Value} (h : VRelL ok w N val [] cs) : cs = [] := by
  match cs, h with
  | [], _ => rfl
theorem viewD_rep (hR : Rl w0 B hd S a w val) {H : Hp} {ok2 : Nat → Prop} (hH : ∀ n b, H[n]? = some (some b) → S.H[n]? = some (some b) ∧ ∀ g ∈ (val n).F, ok2 g) (hk : ∀ b, okF S.H val b → ok2 b)
    {t : Ty} {x : AV} {v : Value} {y : Unit → t.den} (hx : VRel (okF S.H val) w S.H.length val x v) (h : viewD H t x = some y) : IRel ok2 w t (y ()) v ∧ Rep ok2 w t (y ()) v.cells.toList := by
  have notAgg : ∀ {cs : List Value} {u : Ty} {z : u.den}, Rep ok2 w u z cs → cs = [v] → u.isPr = false → IRel ok2 w u z v ∧ Rep ok2 w u z v.cells.toList := by
    intro cs u z hr hc hp
    subst hc
    have h1 := hr.one v (by simp)
    have h2 : v.cells = #[v] := by cases v <;> first | rfl | cases h1
    exact ⟨by unfold IRel; rw [if_neg (by rw [hp]; simp)]; exact hr, by rw [h2]; exact hr⟩
  unfold viewD at h
  split at h
  · rename_i u z
    cases hp : t.isPr with
    | false => rw [hp] at h; cases h
    | true =>
      rw [hp] at h
      simp only [↓reduceIte] at h
      obtain ⟨_, hc⟩ := castT_rep (ok := ok2) (w := w) h
      simp only [VRel] at hx
      obtain ⟨cs, rfl, hr⟩ := hx
      have hr2 := hc cs (hr.weak hk)
      exact ⟨by unfold IRel; rw [if_pos hp]; exact ⟨cs, rfl, hr2⟩, by simpa [Value.cells] using hr2⟩
  · rename_i l
    cases hp : t.isPr with
    | false => rw [hp] at h; cases h
    | true =>
      rw [hp] at h
      simp only [↓reduceIte] at h
      simp only [VRel] at hx
      obtain ⟨cs, rfl, hr, _⟩ := hx
      split at h
      · rename_i z hz
        cases h
        obtain ⟨c1, c2, rfl, k1, k2⟩ := viewC_rep hR hH hk hz hr
        rw [VRelL.nil_r k2, List.append_nil]
        exact ⟨by unfold IRel; rw [if_pos hp]; exact ⟨c1, rfl, k1⟩, by simpa [Value.cells] using k1⟩
      · cases h
  · cases hp : t.isPr with
    | true => rw [hp] at h; cases h
    | false =>
      rw [hp] at h
      simp only [Bool.false_eq_true, ↓reduceIte] at h
      split at h
      · rename_i z hz
        cases h
        obtain ⟨c1, c2, he, k1, k2⟩ := viewC_rep hR hH hk (cs := [v]) hz (by simp [VRelL]; exact hx)
        rw [VRelL.nil_r k2, List.append_nil] at he
        exact notAgg k1 he.symm hp
      · cases h
end
end Go.Proofs.Ytemdajfcfmefnaa.M
/- Operations that make memory or write it do as is reckoned: rows that are made, cells of rows that are written. -/
namespace Go.Proofs.Ytemdajfcfmefnaa.M
open Go.RowKit Abs
set_option linter.unusedVariables false
set_option linter.unusedSimpArgs false

section
variable {P : Program} {T : Tab} {w0 w w1 : World} {B : Nat → Prop} {hd : Nat → Value} {S : AS} {a : Act} {val : Nat → Bd}
theorem alloc_lt (w : World) (c : Array Value) (e : TypeId) : w.heap.size < (w.alloc (.cells c e)).heap.size := by show w.heap.size < (w.heap.push _).size; simp
theorem new_row (hR : Rl w0 B hd S a w val) {e : TypeId} {t : Ty} {l : Unit → List t.den} {xs : List Value} {cur : Array Value} {cap : Nat} (hr : RepL (okF S.H val) w t (l ()) xs) (hn : (l ()).length ≤ cap) (hc : cap ≤ maxLen) (hs : cur.size = cap * t.n)
    (ht : cur.toList.take ((l ()).length * t.n) = xs) :
    Rl w0 B hd { S with H := S.H ++ [some (.row e t l)] } a (w.alloc (.cells cur e)) (upd val S.H.length ⟨.slice (some ⟨w.heap.size, 0, none⟩) (l ()).length cap, [], [w.heap.size]⟩) := by
  have hb : Below w.heap.size w (w.alloc (.cells cur e)) := (Below.refl _ _).alloc (Nat.le_refl _) _
  refine hR.fresh hb [] (fun g hg => .inl ?_) fun val' hv hd hok => ?_
  · simp only [List.mem_singleton] at hg
    subst hg
    exact ⟨Nat.le_refl _, alloc_lt _ _ _⟩
  · exact ⟨xs, ⟨hr.1, .inr ⟨w.heap.size, cap, cur, rfl, Nat.zero_le _, heap_alloc_new _ _, hn, hc, hs, ht⟩⟩, repL_keep hb.size hok hr, rfl⟩
/-- A new slice of slices, whose rows' values are these, out of blocks that it takes in. -/
theorem new_rows (hR : Rl w0 B hd S a w val) {e e2 : TypeId} {t : Ty} {l : Unit → List (List t.den)} {hs : List Value} {cur : Array Value} {cap : Nat} (C : List Nat)
    (hl : hs.length = (l ()).length) (hn : (l ()).length ≤ cap) (hc : cap ≤ maxLen) (hsz : cur.size = cap) (ht : cur.toList.take (l ()).length = hs)
    (hr : ∀ (i : Nat) (y : List t.den), (l ())[i]? = some y → ∃ h xs, hs[i]? = some h ∧ w.ownsRow 0 e2 t.n h y.length xs ∧ RepL (okF S.H val) w t y xs)
    (ho : ∀ h ∈ hs, ∀ g, ownB h = some g → ∃ c, c ∈ C ∧ (∃ b', S.H[c]? = some (some b')) ∧ g ∈ (val c).F)
    (ha : ∀ (i j : Nat) (h h' : Value) (g : Nat), hs[i]? = some h → hs[j]? = some h' → ownB h = some g → ownB h' = some g → i = j) :
    Rl w0 B hd { S with H := dropC C S.H ++ [some (.rows e e2 t l)] } a (w.alloc (.cells cur e)) (upd val S.H.length ⟨.slice (some ⟨w.heap.size, 0, none⟩) (l ()).length cap, hs, w.heap.size :: hs.filterMap ownB⟩) := by
  have hb : Below w.heap.size w (w.alloc (.cells cur e)) := (Below.refl _ _).alloc (Nat.le_refl _) _
  have hlt : ∀ h ∈ hs, ∀ g, ownB h = some g → g < w.heap.size := fun h hh g hg => by
    obtain ⟨c, _, ⟨b', hb'⟩, hc⟩ := ho h hh g hg
    exact hR.heap.lt c b' hb' g hc
  refine hR.fresh hb C (fun g hg => ?_) fun val' hv hd hok => ?_
  · rcases List.mem_cons.1 hg with rfl | hg
    · exact .inl ⟨Nat.le_refl _, alloc_lt _ _ _⟩
    · obtain ⟨h, hh, hg⟩ := List.mem_filterMap.1 hg
      exact .inr (ho h hh g hg)
  · refine ⟨⟨by simp [hl], .inr ⟨w.heap.size, cap, cur, rfl, Nat.zero_le _, heap_alloc_new _ _, hn, hc, by simpa using hsz, by simpa using ht⟩⟩, fun i y hy => ?_, fun g => ?_, ha, fun h hh g hg => ?_⟩
    · obtain ⟨h, xs, k1, k2, k3⟩ := hr i y hy
      exact ⟨h, xs, k1, ownsRow_keep k2 (fun g hg => hb.block g (hlt h (List.mem_of_getElem? k1) g (by simpa using hg))), repL_keep hb.size hok k3⟩
    · simp only [List.mem_cons, List.mem_filterMap]
      constructor
      · rintro (rfl | h)
        · exact .inl rfl
        · exact .inr h
      · rintro (h | h)
        · left; simpa [ownB] using h.symm
        · exact .inr h
    · have := hlt h hh g hg
      intro e'
      simp [ownB] at e'
      omega
theorem make_step (hT : TOk P T) (hR : Rl w0 B hd S a w val) {o : Oper} {t : TypeId} {l c : Operand} (hop : o.op = .makeSlice t l c) {S' : AS} {O : Ob} (h : makeF T S o.dst t (S.ev l) (S.ev c) = some (S', O)) (hO : O.holds) {next : Act → World → Prop} {Q : Exit → Act → World → Prop}
    (hn : ∀ a' w' val', Rl w0 B hd S' a' w' val' → next a' w') : o.wp P a w next Q := by
  unfold makeF at h
  have run : ∀ {e : TypeId} {tt : Ty} {p q : Unit → Int}, (tl T t).und = .slice e → (tl T e).ty = some tt → S.ev l = .int p → S.ev c = .int q → 0 ≤ p () → p () ≤ q () → q () ≤ 4294967296 →
      ∃ z : Array Value, z.toList = zcellsOf tt ∧ (execOp a.eval o).run P w = .ok (.value (.slice (some ⟨w.heap.size, 0, none⟩) (p ()).toNat (q ()).toNat)) (w.alloc (.cells (madeCells z ((q ()).toNat * tt.n)) e)) := by
    intro e tt p q hu ht hl hc h0 h1 h2
    obtain ⟨i, z, hi, hz, hsz, hby, hzc⟩ := elemOk_info (hT.ty ht).2.1
    have hlv := hR.ev l
    have hcv := hR.ev c
    rw [hl] at hlv
    rw [hc] at hcv
    simp only [VRel] at hlv hcv
    have hbc : (i.bytes : Int) * q () ≤ 281474976710656 := by
      have h3 : (i.bytes : Int) * q () ≤ 1024 * q () := Int.mul_le_mul_of_nonneg_right (by omega) (by omega)
      omega
    have hrun := run_make (P := P) w t e i z (slElem_und (hT.slice hu)) hi hz .i64 .i64 (p ()) (q ()) h0 h1 hbc (by omega)
    refine ⟨z.cells, hzc, ?_⟩
    obtain ⟨dst, op, type, pos, after, guard⟩ := o
    simp only at hop
    subst hop
    rw [hsz] at hrun
    simp [execOp, hlv, hcv, hrun]
  split at h
  · rename_i e p q hu hl hc
    split at h
    · rename_i e2 tt hu2 ht
      cases h
      obtain ⟨h0, h1, h2⟩ := hO
      obtain ⟨z, hz, hrun⟩ := run hu ht hl hc h0 h1 h2
      have hz1 : z = #[.slice none 0 0] := by apply Array.ext'; rw [hz]; rfl
      subst hz1
      have hnil : ∀ (i : Nat) (h : Value), (List.replicate (p ()).toNat (Value.slice none 0 0))[i]? = some h → h = .slice none 0 0 := fun i h hh => by
        rw [List.getElem?_replicate] at hh
        split at hh
        · cases hh; rfl
        · cases hh
      have hF := new_rows (e := e) (e2 := e2) (t := tt) (l := fun _ => List.replicate (p ()).toNat []) (hs := List.replicate (p ()).toNat (.slice none 0 0)) (cap := (q ()).toNat) (cur := madeCells #[.slice none 0 0] ((q ()).toNat * 1)) hR []
        (by simp) (by simp; omega) (by unfold maxLen; omega) (by simp [size_madeCells]) (by
          apply List.ext_getElem?
          intro j
          rw [List.getElem?_take, List.length_replicate, List.getElem?_replicate]
          split
          · have hlt : j < (q ()).toNat * 1 := by omega
            simp [madeCells, Nat.mod_one]
            exact ⟨j, by rw [List.getElem?_range (by omega)]⟩
          · rfl)
        (fun i y hy => by
          have hi : i < (p ()).toNat := by have := (List.getElem?_eq_some_iff.1 hy).1; simpa using this
          have hy' : y = [] := by rw [List.getElem?_replicate, if_pos hi] at hy; cases hy; rfl
          subst hy'
          exact ⟨.slice none 0 0, [], by rw [List.getElem?_replicate, if_pos hi], World.ownsRow_nil w 0 e2 tt.n, by simp, fun i y hy => by simp at hy⟩)
        (fun h hh g hg => by rw [(List.mem_replicate.1 hh).2] at hg; cases hg)
        (fun i j h h' g hi hj hg _ => by rw [hnil i h hi] at hg; cases hg)
      refine wp_of_value hrun (hn _ _ _ (hF.put o.dst ?_))
      simp only [VRel]
      exact ⟨by simp [dropC], by rw [upd_self]; simp⟩
    · cases h
    · rename_i tt ht _ _
      cases h
      obtain ⟨h0, h1, h2⟩ := hO
      obtain ⟨z, hz, hrun⟩ := run hu ht hl hc h0 h1 h2
      have hrow := made_row (ok := okF S.H val) (w := w) hz (p ()).toNat (q ()).toNat (by omega)
      have hF := new_row (e := e) (l := fun _ => List.replicate (p ()).toNat (zden tt)) (cap := (q ()).toNat) (cur := madeCells z ((q ()).toNat * tt.n)) hR hrow (by simp; omega) (by unfold maxLen; omega) (by simp [size_madeCells]) (by simp)
      refine wp_of_value hrun (hn _ _ _ (hF.put o.dst ?_))
      simp only [VRel]
      exact ⟨by simp, by rw [upd_self]; simp⟩
    · cases h
  · cases h
theorem storeRow_run {o : Oper} {t : TypeId} {p x : Operand} (hop : o.op = .store t p x) {g off : Nat} (hpe : a.eval p = .pointer (some ⟨g, off, none⟩)) {w1 : World} (hrun : (Instr.storeAt t (.pointer (some ⟨g, off, none⟩)) (a.eval x)).run P w = .ok () w1) :
    (execOp a.eval o).run P w = .ok .skip w1 := by
  obtain ⟨dst, op, type, pos, after, guard⟩ := o
  simp only at hop
  subst hop
  simp [execOp, hpe, hrun]
/-- A row of which one element is written. -/
theorem own_set {base : Nat} {e : TypeId} {t : Ty} {l : List t.den} {v : Value} {xs c : List Value} {g len cap : Nat} {ok : Nat → Prop} (h1 : w.ownsRow base e t.n v l.length xs) (h2 : RepL ok w t l xs) (hv : v = .slice (some ⟨g, 0, none⟩) len cap)
    {i : Nat} {y : t.den} (hi : i < l.length) (hrep : Rep ok w t y c) {u : TypeId} {x : Value} (hx : x.cells.toList = c) (hs : szOf P u = some t.n) :
    ∃ w1 xs', (Instr.storeAt u (.pointer (some ⟨g, i * t.n, none⟩)) x).run P w = .ok () w1 ∧ w1.heap.size = w.heap.size ∧ w1.os = w.os ∧ w1.tape = w.tape ∧ w1.output = w.output ∧ (∀ k, k ≠ g → w1.heap[k]? = w.heap[k]?) ∧
      w1.ownsRow base e t.n v (l.set i y).length xs' ∧ RepL ok w t (l.set i y) xs' := by
  have hlen : x.cells.size = t.n := by have := hrep.length; rw [← hx] at this; simpa using this
  rcases h1.2 with ⟨h3, _⟩ | ⟨g', cap', cur, h3, h4, h5, h6, h7, h8, h9⟩
  · rw [hv] at h3; cases h3
  · have h3' := h3
    rw [hv] at h3
    cases h3
    have hle : (i + 1) * t.n ≤ l.length * t.n := Nat.mul_le_mul_right _ (by omega)
    have hle2 : l.length * t.n ≤ cap * t.n := Nat.mul_le_mul_right _ h6
    rw [Nat.add_mul] at hle
    have hrun := store_run (P := P) (w := w) (t := u) (g := g) (o := i * t.n) (v := x) h5 (by rw [hs, hlen]) (by omega) (by rw [hx]; exact hrep.one)
    have fr := setRow_frame w g (cur.toList.take (i * t.n) ++ x.cells.toList ++ cur.toList.drop (i * t.n + x.cells.size)).toArray
    have hset := repl_set h2 hi hrep
    refine ⟨_, _, hrun, fr.1, fr.2.1, fr.2.2.1, fr.2.2.2, fun k hk => setRow_other _ _ _ _ hk, ?_, hset⟩
    refine ⟨by rw [hset.1, List.length_set], .inr ⟨g, cap, _, by rw [List.length_set]; exact h3', h4, setRow_heap w g cur _ e (0, 0) h5, by rw [List.length_set]; exact h6, h7, ?_, ?_⟩⟩
    · simp; omega
    · rw [List.length_set]
      subst h9
      have hxx := h1.1
      rw [List.length_take, Array.length_toList] at hxx
      apply List.ext_getElem?
      intro q
      rw [← hx]
      simp only [List.getElem?_take, List.getElem?_append, List.length_append, List.length_take, Array.length_toList, List.getElem?_drop, hlen]
      rw [show min (i * t.n) cur.size = i * t.n by omega, show min (l.length * t.n) cur.size = l.length * t.n by omega, show min (i * t.n) (l.length * t.n) = i * t.n by omega]
      by_cases q1 : q < i * t.n
      · have : q < l.length * t.n := by omega
        simp [q1, this, show q < i * t.n + t.n by omega]
      · by_cases q2 : q < i * t.n + t.n
        · have : q < l.length * t.n := by omega
          simp [q1, q2, this]
        · by_cases q3 : q < l.length * t.n
          · simp [q2, q3, show i * t.n + t.n + (q - (i * t.n + t.n)) = q by omega]
          · simp [q2, q3, show ¬ (i * t.n + t.n + (q - (i * t.n + t.n)) < l.length * t.n) by omega]
theorem viewD_data (hR : Rl w0 B hd S a w val) {t : Ty} {x : AV} {v : Value} {y : Unit → t.den} (hx : VRel (okF S.H val) w S.H.length val x v) (h : viewD [] t x = some y) : Rep (okF S.H val) w t (y ()) v.cells.toList :=
  (viewD_rep hR (H := []) (fun n b hn => by simp at hn) (fun _ h => h) hx h).2
theorem storeRow_step (hT : TOk P T) (hR : Rl w0 B hd S a w val) {o : Oper} {t : TypeId} {p x : Operand} (hop : o.op = .store t p x) {n : Nat} {i : Unit → Int} {e : TypeId} {tt : Ty} (hp : S.ev p = .eptr n i tt.n) {l : Unit → List tt.den} (hH : S.H[n]? = some (some (.row e tt l)))
    {y : Unit → tt.den} (hy : viewD [] tt (S.ev x) = some y) (hs : szOf P t = some tt.n) {next : Act → World → Prop} {Q : Exit → Act → World → Prop}
    (hn : ∀ a' w' val', Rl w0 B hd ({ S with H := S.H.set n (some (.row e tt fun _ => setI (l ()) (i ()) (y ()))) }.put o.dst .undef) a' w' val' → next a' w') : o.wp P a w next Q := by
  have hrep := viewD_data hR (hR.ev x) hy
  have hpv := hR.ev p
  rw [hp] at hpv
  simp only [VRel] at hpv
  obtain ⟨_, g, len, cap, hv, hi0, hi1, hpe⟩ := hpv
  obtain ⟨xs, h1, h2, h3⟩ := hR.heap.blk n _ hH
  have hlen := (row_at h1 h2 hv hi0 hi1).1
  obtain ⟨w1, xs', hrun, e1, e2, e3, e4, e5, e6, e7⟩ := own_set (P := P) (u := t) h1 h2 hv (i := (i ()).toNat) (by omega) hrep rfl hs
  have hW := hR.write (w1 := w1) (b' := .row e tt fun _ => setI (l ()) (i ()) (y ())) hH e1 e2 e3 e4 (fun k hk => e5 k fun e => hk (by rw [h3, hv, e]; simp [ownB]))
    (fun K => ⟨xs', e6, repL_keep K.size K.ok e7, h3⟩)
  exact wp_of_skip (storeRow_run hop hpe hrun) (hn _ _ _ (hW.put o.dst (by simp only [VRel]; rfl)))
/-- A cell of a row of a slice of slices is written. -/
theorem storeCell_step (hT : TOk P T) (hR : Rl w0 B hd S a w val) {o : Oper} {t : TypeId} {p x : Operand} (hop : o.op = .store t p x) {n : Nat} {i j : Unit → Int} {e e2 : TypeId} {tt : Ty} (hp : S.ev p = .eelem n i j tt.n) {l : Unit → List (List tt.den)} (hH : S.H[n]? = some (some (.rows e e2 tt l)))
    {y : Unit → tt.den} (hy : viewD [] tt (S.ev x) = some y) (hs : szOf P t = some tt.n) {next : Act → World → Prop} {Q : Exit → Act → World → Prop}
    (hn : ∀ a' w' val', Rl w0 B hd ({ S with H := S.H.set n (some (.rows e e2 tt fun _ => setR tt (l ()) (i ()) (j ()) (y ()))) }.put o.dst .undef) a' w' val' → next a' w') : o.wp P a w next Q := by
  have hrep := viewD_data hR (hR.ev x) hy
  have hpv := hR.ev p
  rw [hp] at hpv
  simp only [VRel] at hpv
  obtain ⟨_, hi0, g, len, cap, hv, hj0, hj1, hpe⟩ := hpv
  obtain ⟨k1, k2, k3, k4, k5⟩ := hR.heap.blk n _ hH
  have hhs : (val n).hs.length = (l ()).length := by have := k1.1; simpa using this
  have hlt : (i ()).toNat < (l ()).length := by rw [← hhs]; exact (List.getElem?_eq_some_iff.1 hv).1
  obtain ⟨h, xs, m1, m2, m3⟩ := k2 _ _ (getR_get (i := i ()) hi0 (by omega))
  rw [hv] at m1
  cases m1
  have hlen := (row_at m2 m3 rfl hj0 hj1).1
  obtain ⟨w1, xs', hrun, e1, e2', e3, e4, e5, e6, e7⟩ := own_set (P := P) (u := t) m2 m3 rfl (i := (j ()).toNat) (by omega) hrep rfl hs
  have hgF : ownB (Value.slice (some ⟨g, 0, none⟩) len cap) = some g := rfl
  have hW := hR.write (w1 := w1) (b' := .rows e e2 tt fun _ => setR tt (l ()) (i ()) (j ()) (y ())) hH e1 e2' e3 e4 (fun k hk => e5 k fun e => hk ((k3 k).2 (.inr ⟨_, List.mem_of_getElem? hv, by rw [e]; rfl⟩)))
    (fun K => by
      refine ⟨?_, fun q z hz => ?_, k3, k4, k5⟩
      · have e8 : (setR tt (l ()) (i ()) (j ()) (y ())).length = (l ()).length := by simp [setR]
        rw [e8]
        exact ownsRow_keep k1 fun k hk => e5 k fun e => k5 _ (List.mem_of_getElem? hv) g hgF (by subst e; simpa using hk)
      · by_cases hq : q = (i ()).toNat
        · subst hq
          rw [show setR tt (l ()) (i ()) (j ()) (y ()) = (l ()).set (i ()).toNat ((getR tt (l ()) (i ())).set (j ()).toNat (y ())) from rfl, List.getElem?_set_self hlt] at hz
          cases hz
          exact ⟨_, xs', hv, e6, repL_keep K.size K.ok e7⟩
        · rw [show setR tt (l ()) (i ()) (j ()) (y ()) = (l ()).set (i ()).toNat ((getR tt (l ()) (i ())).set (j ()).toNat (y ())) from rfl, List.getElem?_set_ne (Ne.symm hq)] at hz
          obtain ⟨h', xs2, n1, n2, n3⟩ := k2 q z hz
          refine ⟨h', xs2, n1, ownsRow_keep n2 fun k hk => e5 k fun e => hq ?_, repL_keep K.size K.ok n3⟩
          exact k4 q _ h' _ g n1 hv (by subst e; simpa using hk) hgF)
  exact wp_of_skip (storeRow_run hop hpe hrun) (hn _ _ _ (hW.put o.dst (by simp only [VRel]; rfl)))
end
end Go.Proofs.Ytemdajfcfmefnaa.M
/- Operations that make memory or write it do as is reckoned: slices of slices, slices that are built, slices that grow. -/
namespace Go.Proofs.Ytemdajfcfmefnaa.M
open Go.RowKit Abs
set_option linter.unusedVariables false
set_option linter.unusedSimpArgs false

section
variable {P : Program} {T : Tab} {w0 w w1 : World} {B : Nat → Prop} {hd : Nat → Value} {S : AS} {a : Act} {val : Nat → Bd}
/-- A row that is handed over. -/
theorem part_rel (hR : Rl w0 B hd S a w val) {e2 : TypeId} {tt : Ty} {x : AV} {v : Value} {y : Unit → List tt.den} {C : List Nat} (hx : VRel (okF S.H val) w S.H.length val x v) (h : partR S.H e2 tt x = some (y, C)) :
    ∃ xs, w.ownsRow 0 e2 tt.n v (y ()).length xs ∧ RepL (okF S.H val) w tt (y ()) xs ∧ (∀ g, ownB v = some g → ∃ c, c ∈ C ∧ (∃ b', S.H[c]? = some (some b')) ∧ g ∈ (val c).F) := by
  unfold partR at h
  split at h
  · rename_i m
    simp only [VRel] at hx
    split at h
    · rename_i e' u l hH
      cases he : (e' == e2) with
      | true =>
        rw [he] at h
        simp only [↓reduceIte, Option.map_eq_some_iff, Prod.mk.injEq] at h
        obtain ⟨z, hz, rfl, rfl⟩ := h
        simp only [beq_iff_eq] at he
        subst he
        obtain ⟨rfl, rfl⟩ := castSl hz
        obtain ⟨xs, h1, h2, h3⟩ := hR.heap.blk m _ hH
        rw [hx.2]
        exact ⟨xs, h1, h2, fun g hg => ⟨m, by simp, ⟨_, hH⟩, by rw [h3, hg]; simp⟩⟩
      | false => rw [he] at h; cases h
    · cases h
  · cases h
    simp only [VRel] at hx
    subst hx
    exact ⟨[], World.ownsRow_nil w 0 e2 tt.n, ⟨by simp, fun i y hy => by simp at hy⟩, fun g hg => by cases hg⟩
  · cases h
theorem slice_cells {v : Value} {ad : Option Addr} {n c : Nat} (h : v = .slice ad n c) : v.cells = #[v] ∧ v.oneCell' = true := by subst h; exact ⟨rfl, rfl⟩
/-- The header of a row is stored. -/
theorem storeRows_step (hT : TOk P T) (hR : Rl w0 B hd S a w val) {o : Oper} {t : TypeId} {p x : Operand} (hop : o.op = .store t p x) {n : Nat} {i : Unit → Int} {e e2 : TypeId} {tt : Ty} (hp : S.ev p = .eptr n i 1) {l : Unit → List (List tt.den)} (hH : S.H[n]? = some (some (.rows e e2 tt l)))
    {y : Unit → List tt.den} {C : List Nat} (hy : partR S.H e2 tt (S.ev x) = some (y, C)) (hC : n ∉ C) (hs : szOf P t = some 1) {next : Act → World → Prop} {Q : Exit → Act → World → Prop}
    (hn : ∀ a' w' val', Rl w0 B hd (AS.put { S with tm := scrubL n false S.tm, H := (scrubH n false (dropC C S.H)).set n (some (.rows e e2 tt fun _ => setI (l ()) (i ()) (y ()))) } o.dst .undef) a' w' val' → next a' w') : o.wp P a w next Q := by
  obtain ⟨xs, r1, r2, r3⟩ := part_rel hR (hR.ev x) hy
  obtain ⟨ad, cp, hsl⟩ := row_slice r1
  obtain ⟨hcells, hone⟩ := slice_cells hsl
  have hpv := hR.ev p
  rw [hp] at hpv
  simp only [VRel] at hpv
  obtain ⟨_, g, len, cap, hv, hi0, hi1, hpe⟩ := hpv
  rw [Nat.mul_one] at hpe
  obtain ⟨k1, k2, k3, k4, k5⟩ := hR.heap.blk n _ hH
  have hhs : (val n).hs.length = (l ()).length := by have := k1.1; simpa using this
  rcases k1.2 with ⟨m1, _⟩ | ⟨g', cap', cur, m1, m2, m3, m4, m5, m6, m7⟩
  · rw [hv] at m1; cases m1
  have m1' := m1
  rw [hv] at m1
  cases m1
  have hlt : (i ()).toNat < (l ()).length := by omega
  have hcs : (l ()).length ≤ cur.size := by omega
  have hrun := store_run (P := P) (w := w) (t := t) (g := g) (o := (i ()).toNat) (v := a.eval x) m3 (by rw [hs, hcells]; rfl) (by rw [hcells]; simp; omega) (by rw [hcells]; intro u hu; simp at hu; subst hu; exact hone)
  have fr := setRow_frame w g (cur.toList.take (i ()).toNat ++ (a.eval x).cells.toList ++ cur.toList.drop ((i ()).toNat + (a.eval x).cells.size)).toArray
  have hF : ∀ q, q ≠ g → (w.setRow g (cur.toList.take (i ()).toNat ++ (a.eval x).cells.toList ++ cur.toList.drop ((i ()).toNat + (a.eval x).cells.size)).toArray).heap[q]? = w.heap[q]? := fun q hq => setRow_other _ _ _ _ hq
  have hnew : (w.setRow g (cur.toList.take (i ()).toNat ++ (a.eval x).cells.toList ++ cur.toList.drop ((i ()).toNat + (a.eval x).cells.size)).toArray).heap[g]? = some (.cells (cur.toList.take (i ()).toNat ++ (a.eval x).cells.toList ++ cur.toList.drop ((i ()).toNat + (a.eval x).cells.size)).toArray e (0, 0)) := setRow_heap w g cur _ e (0, 0) m3
  have fr1 := fr.1
  have fr2 := fr.2.1
  have fr3 := fr.2.2.1
  have fr4 := fr.2.2.2
  generalize w.setRow g (cur.toList.take (i ()).toNat ++ (a.eval x).cells.toList ++ cur.toList.drop ((i ()).toNat + (a.eval x).cells.size)).toArray = w1 at hrun hF hnew fr1 fr2 fr3 fr4
  rw [hcells] at hnew
  have hgF : g ∈ (val n).F := (k3 g).2 (.inl (by rw [hv]; rfl))
  have hnotg : ∀ h ∈ (val n).hs, ∀ q, ownB h = some q → q ≠ g := fun h hh q hq e => k5 h hh q hq (by rw [hv, e]; rfl)
  have hxg : ∀ q, ownB (a.eval x) = some q → q ≠ g ∧ q < w.heap.size ∧ ∀ h ∈ (val n).hs, ownB h ≠ some q := fun q hq => by
    obtain ⟨c, hc, ⟨b', hb'⟩, hcF⟩ := r3 q hq
    have hne : c ≠ n := fun e => hC (e ▸ hc)
    have hnF := hR.heap.apart c n b' _ hne hb' hH q hcF
    exact ⟨fun e => hnF (e ▸ hgF), hR.heap.lt c b' hb' q hcF, fun h hh he => hnF ((k3 q).2 (.inr ⟨h, hh, he⟩))⟩
  have hget : ∀ (j : Nat) (h : Value), ((val n).hs.set (i ()).toNat (a.eval x))[j]? = some h → (j = (i ()).toNat ∧ h = a.eval x) ∨ (j ≠ (i ()).toNat ∧ (val n).hs[j]? = some h) := fun j h hj => by
    by_cases hji : j = (i ()).toNat
    · subst hji
      rw [List.getElem?_set_self (by omega)] at hj
      cases hj; exact .inl ⟨rfl, rfl⟩
    · rw [List.getElem?_set_ne (Ne.symm hji)] at hj
      exact .inr ⟨hji, hj⟩
  have hW := hR.renew (w1 := w1) hH false C hC (d := ⟨(val n).v, (val n).hs.set (i ()).toNat (a.eval x), g :: ((val n).hs.set (i ()).toNat (a.eval x)).filterMap ownB⟩) (b' := .rows e e2 tt fun _ => setI (l ()) (i ()) (y ())) (fun _ => rfl) (fun h => by cases h)
    (by omega) fr2 fr3 fr4 (fun k hk hkF => hF k fun e => hkF (e ▸ hgF)) (fun q hq => by
      rcases List.mem_cons.1 hq with rfl | hq
      · exact .inr (.inl hgF)
      · obtain ⟨h, hh, hq⟩ := List.mem_filterMap.1 hq
        obtain ⟨j, hj⟩ := List.mem_iff_getElem?.1 hh
        rcases hget j h hj with ⟨_, rfl⟩ | ⟨_, hj'⟩
        · exact .inr (.inr (r3 q hq))
        · exact .inr (.inl ((k3 q).2 (.inr ⟨h, List.mem_of_getElem? hj', hq⟩))))
    (fun val' H' hv' hne' hok => by
      refine ⟨⟨by simp [setI, hhs], .inr ⟨g, cap, _, by simp [setI]; exact m1', Nat.zero_le _, hnew, by simp [setI]; exact m4, m5, ?_, ?_⟩⟩, fun q z hz => ?_, fun q => ?_, fun p q h h' b hp hq hb hb' => ?_, fun h hh q hq => ?_⟩
      · simp; omega
      · simp only [setI, List.length_set, Nat.mul_one]
        have m7' : (val n).hs = cur.toList.take (l ()).length := by have := m7.symm; simpa using this
        rw [m7']
        apply List.ext_getElem?
        intro q
        simp only [List.getElem?_take, List.getElem?_append, List.length_append, List.length_take, Array.length_toList, List.getElem?_drop, List.getElem?_set]
        rw [show min (i ()).toNat cur.size = (i ()).toNat by omega, show min (l ()).length cur.size = (l ()).length by omega]
        by_cases q1 : q < (i ()).toNat
        · have : q < (l ()).length := by omega
          simp [q1, this, show q < (i ()).toNat + 1 by omega, show ¬ (i ()).toNat = q by omega]
        · by_cases q2 : q = (i ()).toNat
          · subst q2
            simp [hlt]
          · by_cases q3 : q < (l ()).length
            · simp [q1, q3, show ¬ q < (i ()).toNat + 1 by omega, show ¬ (i ()).toNat = q by omega, show (i ()).toNat + 1 + (q - ((i ()).toNat + 1)) = q by omega]
            · simp [q1, q3, show ¬ (i ()).toNat = q by omega]
      · by_cases hqi : q = (i ()).toNat
        · subst hqi
          rw [show setI (l ()) (i ()) (y ()) = (l ()).set (i ()).toNat (y ()) from rfl, List.getElem?_set_self hlt] at hz
          cases hz
          exact ⟨a.eval x, xs, by simp only; rw [List.getElem?_set_self (by omega)], ownsRow_keep r1 (fun k hk => hF k (hxg k (by simpa using hk)).1), repL_keep (by omega) hok r2⟩
        · rw [show setI (l ()) (i ()) (y ()) = (l ()).set (i ()).toNat (y ()) from rfl, List.getElem?_set_ne (Ne.symm hqi)] at hz
          obtain ⟨h, xs2, n1, n2, n3⟩ := k2 q z hz
          exact ⟨h, xs2, by simp only; rw [List.getElem?_set_ne (Ne.symm hqi)]; exact n1, ownsRow_keep n2 (fun k hk => hF k (hnotg h (List.mem_of_getElem? n1) k (by simpa using hk))), repL_keep (by omega) hok n3⟩
      · simp only [List.mem_cons, List.mem_filterMap]
        constructor
        · rintro (rfl | h)
          · exact .inl (by rw [hv]; rfl)
          · exact .inr h
        · rintro (h | h)
          · left; rw [hv] at h; simpa [ownB] using h.symm
          · exact .inr h
      · rcases hget p h hp with ⟨rfl, rfl⟩ | ⟨n1, n2⟩ <;> rcases hget q h' hq with ⟨rfl, rfl⟩ | ⟨n3, n4⟩
        · rfl
        · exact ((hxg b hb).2.2 h' (List.mem_of_getElem? n4) hb').elim
        · exact ((hxg b hb').2.2 h (List.mem_of_getElem? n2) hb).elim
        · exact k4 p q h h' b n2 n4 hb hb'
      · obtain ⟨j, hj⟩ := List.mem_iff_getElem?.1 hh
        rcases hget j h hj with ⟨_, rfl⟩ | ⟨_, hj'⟩
        · intro e
          rw [hv] at e
          simp [ownB] at e
          exact (hxg q hq).1 e.symm
        · exact k5 h (List.mem_of_getElem? hj') q hq)
  exact wp_of_skip (storeRow_run hop hpe hrun) (hn _ _ _ (hW.put o.dst (by simp only [VRel]; rfl)))

/-- A row is handed back into its place. -/
theorem storeRowsH_step (hT : TOk P T) (hR : Rl w0 B hd S a w val) {o : Oper} {t : TypeId} {p x : Operand} (hop : o.op = .store t p x) {n : Nat} {i : Unit → Int} {e e2 : TypeId} {tt : Ty} (hp : S.ev p = .eptr n i 1) {l : Unit → List (List tt.den)} {jj : Unit → Int} (hH : S.H[n]? = some (some (.rowsH e e2 tt l jj))) (hij : (i ()).toNat = (jj ()).toNat)
    {y : Unit → List tt.den} {C : List Nat} (hy : partR S.H e2 tt (S.ev x) = some (y, C)) (hC : n ∉ C) (hs : szOf P t = some 1) {next : Act → World → Prop} {Q : Exit → Act → World → Prop}
    (hn : ∀ a' w' val', Rl w0 B hd (AS.put { S with tm := scrubL n false S.tm, H := (scrubH n false (dropC C S.H)).set n (some (.rows e e2 tt fun _ => setI (l ()) (i ()) (y ()))) } o.dst .undef) a' w' val' → next a' w') : o.wp P a w next Q := by
  obtain ⟨xs, r1, r2, r3⟩ := part_rel hR (hR.ev x) hy
  obtain ⟨ad, cp, hsl⟩ := row_slice r1
  obtain ⟨hcells, hone⟩ := slice_cells hsl
  have hpv := hR.ev p
  rw [hp] at hpv
  simp only [VRel] at hpv
  obtain ⟨_, g, len, cap, hv, hi0, hi1, hpe⟩ := hpv
  rw [Nat.mul_one] at hpe
  obtain ⟨k1, k2, k3, k4, k5⟩ := hR.heap.blk n _ hH
  have hhs : (val n).hs.length = (l ()).length := by have := k1.1; simpa using this
  rcases k1.2 with ⟨m1, _⟩ | ⟨g', cap', cur, m1, m2, m3, m4, m5, m6, m7⟩
  · rw [hv] at m1; cases m1
  have m1' := m1
  rw [hv] at m1
  cases m1
  have hlt : (i ()).toNat < (l ()).length := by omega
  have hcs : (l ()).length ≤ cur.size := by omega
  have hrun := store_run (P := P) (w := w) (t := t) (g := g) (o := (i ()).toNat) (v := a.eval x) m3 (by rw [hs, hcells]; rfl) (by rw [hcells]; simp; omega) (by rw [hcells]; intro u hu; simp at hu; subst hu; exact hone)
  have fr := setRow_frame w g (cur.toList.take (i ()).toNat ++ (a.eval x).cells.toList ++ cur.toList.drop ((i ()).toNat + (a.eval x).cells.size)).toArray
  have hF : ∀ q, q ≠ g → (w.setRow g (cur.toList.take (i ()).toNat ++ (a.eval x).cells.toList ++ cur.toList.drop ((i ()).toNat + (a.eval x).cells.size)).toArray).heap[q]? = w.heap[q]? := fun q hq => setRow_other _ _ _ _ hq
  have hnew : (w.setRow g (cur.toList.take (i ()).toNat ++ (a.eval x).cells.toList ++ cur.toList.drop ((i ()).toNat + (a.eval x).cells.size)).toArray).heap[g]? = some (.cells (cur.toList.take (i ()).toNat ++ (a.eval x).cells.toList ++ cur.toList.drop ((i ()).toNat + (a.eval x).cells.size)).toArray e (0, 0)) := setRow_heap w g cur _ e (0, 0) m3
  have fr1 := fr.1
  have fr2 := fr.2.1
  have fr3 := fr.2.2.1
  have fr4 := fr.2.2.2
  generalize w.setRow g (cur.toList.take (i ()).toNat ++ (a.eval x).cells.toList ++ cur.toList.drop ((i ()).toNat + (a.eval x).cells.size)).toArray = w1 at hrun hF hnew fr1 fr2 fr3 fr4
  rw [hcells] at hnew
  have hgF : g ∈ (val n).F := (k3 g).2 (.inl (by rw [hv]; rfl))
  have hnotg : ∀ (p : Nat) (h : Value), p ≠ (i ()).toNat → (val n).hs[p]? = some h → ∀ q, ownB h = some q → q ≠ g := fun p h hp hh q hq e => k5 p h (hij ▸ hp) hh q hq (by rw [hv, e]; rfl)
  have hxg : ∀ q, ownB (a.eval x) = some q → q ≠ g ∧ q < w.heap.size ∧ ∀ (p : Nat) (h : Value), p ≠ (i ()).toNat → (val n).hs[p]? = some h → ownB h ≠ some q := fun q hq => by
    obtain ⟨c, hc, ⟨b', hb'⟩, hcF⟩ := r3 q hq
    have hne : c ≠ n := fun e => hC (e ▸ hc)
    have hnF := hR.heap.apart c n b' _ hne hb' hH q hcF
    exact ⟨fun e => hnF (e ▸ hgF), hR.heap.lt c b' hb' q hcF, fun p h hp hh he => hnF ((k3 q).2 (.inr ⟨p, h, hij ▸ hp, hh, he⟩))⟩
  have hget : ∀ (j : Nat) (h : Value), ((val n).hs.set (i ()).toNat (a.eval x))[j]? = some h → (j = (i ()).toNat ∧ h = a.eval x) ∨ (j ≠ (i ()).toNat ∧ (val n).hs[j]? = some h) := fun j h hj => by
    by_cases hji : j = (i ()).toNat
    · subst hji
      rw [List.getElem?_set_self (by omega)] at hj
      cases hj; exact .inl ⟨rfl, rfl⟩
    · rw [List.getElem?_set_ne (Ne.symm hji)] at hj
      exact .inr ⟨hji, hj⟩
  have hW := hR.renew (w1 := w1) hH false C hC (d := ⟨(val n).v, (val n).hs.set (i ()).toNat (a.eval x), g :: ((val n).hs.set (i ()).toNat (a.eval x)).filterMap ownB⟩) (b' := .rows e e2 tt fun _ => setI (l ()) (i ()) (y ())) (fun _ => rfl) (fun h => by cases h)
    (by omega) fr2 fr3 fr4 (fun k hk hkF => hF k fun e => hkF (e ▸ hgF)) (fun q hq => by
      rcases List.mem_cons.1 hq with rfl | hq
      · exact .inr (.inl hgF)
      · obtain ⟨h, hh, hq⟩ := List.mem_filterMap.1 hq
        obtain ⟨j, hj⟩ := List.mem_iff_getElem?.1 hh
        rcases hget j h hj with ⟨_, rfl⟩ | ⟨hji, hj'⟩
        · exact .inr (.inr (r3 q hq))
        · exact .inr (.inl ((k3 q).2 (.inr ⟨j, h, hij ▸ hji, hj', hq⟩))))
    (fun val' H' hv' hne' hok => by
      refine ⟨⟨by simp [setI, hhs], .inr ⟨g, cap, _, by simp [setI]; exact m1', Nat.zero_le _, hnew, by simp [setI]; exact m4, m5, ?_, ?_⟩⟩, fun q z hz => ?_, fun q => ?_, fun p q h h' b hp hq hb hb' => ?_, fun h hh q hq => ?_⟩
      · simp; omega
      · simp only [setI, List.length_set, Nat.mul_one]
        have m7' : (val n).hs = cur.toList.take (l ()).length := by have := m7.symm; simpa using this
        rw [m7']
        apply List.ext_getElem?
        intro q
        simp only [List.getElem?_take, List.getElem?_append, List.length_append, List.length_take, Array.length_toList, List.getElem?_drop, List.getElem?_set]
        rw [show min (i ()).toNat cur.size = (i ()).toNat by omega, show min (l ()).length cur.size = (l ()).length by omega]
        by_cases q1 : q < (i ()).toNat
        · have : q < (l ()).length := by omega
          simp [q1, this, show q < (i ()).toNat + 1 by omega, show ¬ (i ()).toNat = q by omega]
        · by_cases q2 : q = (i ()).toNat
          · subst q2
            simp [hlt]
          · by_cases q3 : q < (l ()).length
            · simp [q1, q3, show ¬ q < (i ()).toNat + 1 by omega, show ¬ (i ()).toNat = q by omega, show (i ()).toNat + 1 + (q - ((i ()).toNat + 1)) = q by omega]
            · simp [q1, q3, show ¬ (i ()).toNat = q by omega]
      · by_cases hqi : q = (i ()).toNat
        · subst hqi
          rw [show setI (l ()) (i ()) (y ()) = (l ()).set (i ()).toNat (y ()) from rfl, List.getElem?_set_self hlt] at hz
          cases hz
          exact ⟨a.eval x, xs, by simp only; rw [List.getElem?_set_self (by omega)], ownsRow_keep r1 (fun k hk => hF k (hxg k (by simpa using hk)).1), repL_keep (by omega) hok r2⟩
        · rw [show setI (l ()) (i ()) (y ()) = (l ()).set (i ()).toNat (y ()) from rfl, List.getElem?_set_ne (Ne.symm hqi)] at hz
          obtain ⟨h, xs2, n1, n2, n3⟩ := k2 q z hz (hij ▸ hqi)
          exact ⟨h, xs2, by simp only; rw [List.getElem?_set_ne (Ne.symm hqi)]; exact n1, ownsRow_keep n2 (fun k hk => hF k (hnotg q h hqi n1 k (by simpa using hk))), repL_keep (by omega) hok n3⟩
      · simp only [List.mem_cons, List.mem_filterMap]
        constructor
        · rintro (rfl | h)
          · exact .inl (by rw [hv]; rfl)
          · exact .inr h
        · rintro (h | h)
          · left; rw [hv] at h; simpa [ownB] using h.symm
          · exact .inr h
      · rcases hget p h hp with ⟨rfl, rfl⟩ | ⟨n1, n2⟩ <;> rcases hget q h' hq with ⟨rfl, rfl⟩ | ⟨n3, n4⟩
        · rfl
        · exact ((hxg b hb).2.2 q h' n3 n4 hb').elim
        · exact ((hxg b hb').2.2 p h n1 n2 hb).elim
        · exact k4 p q h h' b (hij ▸ n1) (hij ▸ n3) n2 n4 hb hb'
      · obtain ⟨j, hj⟩ := List.mem_iff_getElem?.1 hh
        rcases hget j h hj with ⟨_, rfl⟩ | ⟨hji, hj'⟩
        · intro e
          rw [hv] at e
          simp [ownB] at e
          exact (hxg q hq).1 e.symm
        · exact k5 j h (hij ▸ hji) hj' q hq)
  exact wp_of_skip (storeRow_run hop hpe hrun) (hn _ _ _ (hW.put o.dst (by simp only [VRel]; rfl)))

theorem run_build {t e : TypeId} {tt : Ty} {len : Nat} {parts : Array (Nat × Operand)} (hs : slElem P t = some e) (he : elemOk P e tt) (hpl : parts.toList.length = len) (hsm : len * tt.n ≤ 16777216)
    (h2 : (parts.toList.map fun x => (x.1, a.eval x.2)) = (((parts.toList.map fun (x : Nat × Operand) => a.eval x.2).zipIdx 0).map fun x => (x.2, x.1)))
    (hcs : ∀ v ∈ (parts.toList.map fun (x : Nat × Operand) => a.eval x.2), v.cells.size = tt.n) :
    (Instr.buildSlice t len (parts.map fun (i, x) => (i, a.eval x))).run P w = .ok (.slice (some ⟨w.heap.size, 0, none⟩) len len) (w.alloc (.cells ((parts.toList.map fun (x : Nat × Operand) => (a.eval x.2).cells.toList).flatten).toArray e)) := by
  obtain ⟨i, z, hi, hz, hsz, hby, hzc⟩ := elemOk_info he
  have hp := tt.n_pos
  have hfm : ((parts.toList.map fun (x : Nat × Operand) => a.eval x.2).flatMap fun v => v.cells.toList) = (parts.toList.map fun (x : Nat × Operand) => (a.eval x.2).cells.toList).flatten := by
    rw [List.flatMap_def, List.map_map]; rfl
  have hpt : (parts.map fun (i, x) => (i, a.eval x)).toList = ((parts.toList.map fun (x : Nat × Operand) => a.eval x.2).zipIdx 0).map fun x => (x.2, x.1) := by
    rw [Array.toList_map]; exact h2
  by_cases hz0 : len = 0
  · subst hz0
    have hnil : parts.toList = [] := List.eq_nil_of_length_eq_zero hpl
    have hparts : parts = #[] := by apply Array.ext'; simpa using hnil
    subst hparts
    simp [Instr.buildSlice, run_underlying (slElem_und hs), sizeOf, typeInfo, hi, Instr.fill, newRow]
    exact congrArg (fun c => w.alloc (.cells c e)) (Array.eq_empty_of_size_eq_zero (by simp))
  · have hpos : ¬ len * i.size = 0 := by rw [hsz]; exact Nat.mul_ne_zero hz0 (by omega)
    refine run_buildSlice w t e len _ _ i z (slElem_und hs) hi hz (by rw [hsz]; omega) hpos ?_
    rw [hpt, hsz, ← hfm]
    exact Great.fill_whole hp _ _ hcs (by simp only [List.length_map, Array.size_map, Array.size_range]; rw [hpl])
theorem build_run {o : Oper} {t : TypeId} {len : Nat} {parts : Array (Nat × Operand)} (hop : o.op = .buildSlice t len parts) {v : Value} (h : (Instr.buildSlice t len (parts.map fun (i, x) => (i, a.eval x))).run P w = .ok v w1) : (execOp a.eval o).run P w = .ok (.value v) w1 := by
  obtain ⟨dst, op, type, pos, after, guard⟩ := o
  simp only at hop
  subst hop
  simp only [execOp, Sem.run_bind, h, Result.andThen_ok]
  rfl
theorem partsU_rel (hR : Rl w0 B hd S a w val) {tt : Ty} : ∀ {i : Nat} {ps : List (Nat × Operand)} {l : Unit → List tt.den}, partsU S tt i ps = some l →
    (l ()).length = ps.length ∧ (ps.map fun x => (x.1, a.eval x.2)) = (((ps.map fun (x : Nat × Operand) => a.eval x.2).zipIdx i).map fun x => (x.2, x.1)) ∧
    ∀ (j : Nat) (y : tt.den), (l ())[j]? = some y → ∃ x, ps[j]? = some x ∧ Rep (okF S.H val) w tt y (a.eval x.2).cells.toList
  | i, [], l, h => by unfold partsU at h; cases h; exact ⟨rfl, rfl, fun j y hy => by simp at hy⟩
  | i, (j, x) :: r, l, h => by
    unfold partsU at h
    cases hij : (i == j) with
    | false => rw [hij] at h; cases h
    | true =>
      rw [hij] at h
      simp only [↓reduceIte] at h
      simp only [beq_iff_eq] at hij
      subst hij
      split at h
      · rename_i y l' hy hl
        cases h
        obtain ⟨h1, h2, h3⟩ := partsU_rel hR hl
        refine ⟨by simp [h1], by simp [h2], fun k z hz => ?_⟩
        cases k with
        | zero => simp at hz; subst hz; exact ⟨_, rfl, viewD_data hR (hR.ev x) hy⟩
        | succ k => simpa using h3 k z (by simpa using hz)
      · cases h
theorem build_step (hT : TOk P T) (hR : Rl w0 B hd S a w val) {o : Oper} {t : TypeId} {len : Nat} {parts : Array (Nat × Operand)} (hop : o.op = .buildSlice t len parts) {S' : AS} (h : buildF T S o.dst t len parts.toList = some S') {next : Act → World → Prop} {Q : Exit → Act → World → Prop}
    (hn : ∀ a' w' val', Rl w0 B hd S' a' w' val' → next a' w') : o.wp P a w next Q := by
  unfold buildF at h
  split at h
  · rename_i e hu
    split at h
    · rename_i e2 tt hu2 ht
      have he := (hT.ty ht).2.1
      split at h
      · rename_i hps
        cases hl : (len == 0) with
        | false => rw [hl] at h; cases h
        | true =>
          rw [hl] at h
          cases h
          simp only [beq_iff_eq] at hl
          subst hl
          have hF := new_rows (e := e) (e2 := e2) (t := tt) (l := fun _ => []) (hs := []) (cap := 0) (cur := #[]) hR [] rfl (Nat.le_refl _) (by simp [maxLen]) rfl rfl (fun i y hy => by simp at hy) (fun h hh => by simp at hh) (fun i j h h' g hi => by simp at hi)
          have hrun := run_build (w := w) (a := a) (parts := parts) (len := 0) (hT.slice hu) he (by rw [hps]; rfl) (by simp) (by rw [hps]; rfl) (by rw [hps]; simp)
          rw [hps] at hrun
          refine wp_of_value (build_run hop hrun) (hn _ _ _ (hF.put o.dst ?_))
          simp only [VRel]
          exact ⟨by simp [dropC], by rw [upd_self]; rfl⟩
      · rename_i x hps
        cases hl : (len == 1) with
        | false => rw [hl] at h; cases h
        | true =>
          rw [hl] at h
          simp only [↓reduceIte] at h
          simp only [beq_iff_eq] at hl
          subst hl
          split at h
          · rename_i y C hy
            cases h
            obtain ⟨xs, r1, r2, r3⟩ := part_rel hR (hR.ev x) hy
            obtain ⟨ad, cp, hsl⟩ := row_slice r1
            obtain ⟨hcells, hone⟩ := slice_cells hsl
            have hF := new_rows (e := e) (e2 := e2) (t := tt) (l := fun _ => [y ()]) (hs := [a.eval x]) (cap := 1) (cur := #[a.eval x]) hR C rfl (Nat.le_refl _) (by simp [maxLen]) rfl rfl
              (fun i z hz => by
                match i, hz with
                | 0, hz => cases hz; exact ⟨_, xs, rfl, r1, r2⟩
                | i + 1, hz => simp at hz)
              (fun h hh g hg => by simp at hh; subst hh; exact r3 g hg)
              (fun i j h h' g hi hj _ _ => by
                have h1 := (List.getElem?_eq_some_iff.1 hi).1
                have h2 := (List.getElem?_eq_some_iff.1 hj).1
                simp at h1 h2
                omega)
            have hrun := run_build (w := w) (a := a) (parts := parts) (len := 1) (tt := .sl tt) (hT.slice hu) he (by rw [hps]; rfl) (by simp [Ty.n]) (by rw [hps]; rfl) (by rw [hps]; intro v hv; simp at hv; subst hv; rw [hcells]; rfl)
            rw [hps] at hrun
            simp only [List.map_cons, List.map_nil, List.flatten_cons, List.flatten_nil, List.append_nil, hcells] at hrun
            refine wp_of_value (build_run hop hrun) (hn _ _ _ (hF.put o.dst ?_))
            simp only [VRel]
            exact ⟨by simp [dropC_len], by rw [upd_self]; rfl⟩
          · cases h
      · cases h
    · cases h
    · rename_i tt ht _ _
      have he := (hT.ty ht).2.1
      cases hc : (parts.toList.length == len && (len * tt.n).ble 16777216) with
      | false => rw [hc] at h; cases h
      | true =>
        rw [hc] at h
        simp only [↓reduceIte, Option.map_eq_some_iff] at h
        obtain ⟨l, hl, rfl⟩ := h
        simp only [Bool.and_eq_true, beq_iff_eq] at hc
        obtain ⟨hpl, hsm⟩ := hc
        have hsm := Nat.le_of_ble_eq_true hsm
        obtain ⟨h1, h2, h3⟩ := partsU_rel hR hl
        have hp := tt.n_pos
        have hcs : ∀ v ∈ (parts.toList.map fun (x : Nat × Operand) => a.eval x.2), v.cells.size = tt.n := by
          intro v hv
          obtain ⟨x, hx, rfl⟩ := List.mem_map.1 hv
          obtain ⟨j, hj⟩ := List.mem_iff_getElem?.1 hx
          have hlt : j < (l ()).length := by rw [h1]; exact (List.getElem?_eq_some_iff.1 hj).1
          obtain ⟨x', hx', hr⟩ := h3 j (l ())[j] (by simp [hlt])
          rw [hj] at hx'
          cases hx'
          have := hr.length
          simpa using this
        have hrow : RepL (okF S.H val) w tt (l ()) ((parts.toList.map fun (x : Nat × Operand) => (a.eval x.2).cells.toList).flatten) := by
          refine flat_repl (by simp [h1]) fun j y hy => ?_
          obtain ⟨x, hx, hr⟩ := h3 j y hy
          exact ⟨_, by rw [List.getElem?_map, hx]; rfl, hr⟩
        have hF := new_row (e := e) (l := l) (cap := len) (cur := ((parts.toList.map fun (x : Nat × Operand) => (a.eval x.2).cells.toList).flatten).toArray) hR hrow (by omega) (by
            unfold maxLen
            have : len ≤ len * tt.n := Nat.le_mul_of_pos_right _ hp
            omega) (by have := hrow.1; simp only [List.size_toArray]; rw [this, h1, hpl]) (by
            rw [List.take_of_length_le (by have := hrow.1; simp only; omega)])
        have hrun := run_build (w := w) (a := a) (hT.slice hu) he hpl hsm h2 hcs
        refine wp_of_value (build_run hop hrun) (hn _ _ _ (hF.put o.dst ?_))
        simp only [VRel]
        exact ⟨by simp, by rw [upd_self, h1, hpl]⟩
    · cases h
  · cases h
theorem buildR_step (hT : TOk P T) (hR : Rl w0 B hd S a w val) {o : Oper} {t : TypeId} {len : Nat} {parts : Array (Nat × Operand)} (hop : o.op = .buildSlice t len parts) {S' : AS} (h : buildR T S o.dst t len parts.toList = some S') {next : Act → World → Prop} {Q : Exit → Act → World → Prop}
    (hn : ∀ a' w' val', Rl w0 B hd S' a' w' val' → next a' w') : o.wp P a w next Q := by
  unfold buildR at h
  split at h
  · rename_i e hu
    split at h
    · rename_i tt ht
      have he := (hT.ty ht).2.1
      cases hc : (parts.toList.length == len && (len * tt.n).ble 16777216) with
      | false => rw [hc] at h; cases h
      | true =>
        rw [hc] at h
        simp only [↓reduceIte, Option.map_eq_some_iff] at h
        obtain ⟨l, hl, rfl⟩ := h
        simp only [Bool.and_eq_true, beq_iff_eq] at hc
        obtain ⟨hpl, hsm⟩ := hc
        have hsm := Nat.le_of_ble_eq_true hsm
        obtain ⟨h1, h2, h3⟩ := partsU_rel hR hl
        have hp := tt.n_pos
        have hcs : ∀ v ∈ (parts.toList.map fun (x : Nat × Operand) => a.eval x.2), v.cells.size = tt.n := by
          intro v hv
          obtain ⟨x, hx, rfl⟩ := List.mem_map.1 hv
          obtain ⟨j, hj⟩ := List.mem_iff_getElem?.1 hx
          have hlt : j < (l ()).length := by rw [h1]; exact (List.getElem?_eq_some_iff.1 hj).1
          obtain ⟨x', hx', hr⟩ := h3 j (l ())[j] (by simp [hlt])
          rw [hj] at hx'
          cases hx'
          have := hr.length
          simpa using this
        have hrow : RepL (okF S.H val) w tt (l ()) ((parts.toList.map fun (x : Nat × Operand) => (a.eval x.2).cells.toList).flatten) := by
          refine flat_repl (by simp [h1]) fun j y hy => ?_
          obtain ⟨x, hx, hr⟩ := h3 j y hy
          exact ⟨_, by rw [List.getElem?_map, hx]; rfl, hr⟩
        have hF := new_row (e := e) (l := l) (cap := len) (cur := ((parts.toList.map fun (x : Nat × Operand) => (a.eval x.2).cells.toList).flatten).toArray) hR hrow (by omega) (by
            unfold maxLen
            have : len ≤ len * tt.n := Nat.le_mul_of_pos_right _ hp
            omega) (by have := hrow.1; simp only [List.size_toArray]; rw [this, h1, hpl]) (by
            rw [List.take_of_length_le (by have := hrow.1; simp only; omega)])
        have hrun := run_build (w := w) (a := a) (hT.slice hu) he hpl hsm h2 hcs
        refine wp_of_value (build_run hop hrun) (hn _ _ _ (hF.put o.dst ?_))
        simp only [VRel]
        exact ⟨by simp, by rw [upd_self, h1, hpl]⟩
    · cases h
  · cases h
end
end Go.Proofs.Ytemdajfcfmefnaa.M

/- Operations that make memory or write it, by reckoning. -/
import Derived.Test.YtbkdmnohpjihgaaMg
namespace Go.Proofs.Ytbkdmnohpjihgaa.M
open Go.RowKit Abs
set_option linter.unusedVariables false
set_option linter.unusedSimpArgs false

def cellsU : (t : Ty) → (Unit → t.den) → List AV
  | .pr a b, x => cellsU a (fun _ => (x ()).1) ++ cellsU b (fun _ => (x ()).2)
  | .int, x => [.int x]
  | .bool, x => [.bool x]
  | .str, x => [.str x]
  | .sl t, x => [.sl t x]
def cellsOf (H : Hp) : AV → Option (List AV)
  | .agg t x => some (cellsU t x)
  | .cells l => some l
  | .int x => some [.int x]
  | .lit x => some [.lit x]
  | .bool x => some [.bool x]
  | .str x => some [.str x]
  | .u8 x => some [.u8 x]
  | .sl t l => some [.sl t l]
  | .ref n => (match H[n]? with
    | some (some (.row _ _ _)) => some [.ref n]
    | some (some (.rows _ _ _ _)) => some [.ref n]
    | _ => none)
  | .elem n i => (match H[n]? with
    | some (some (.rows _ _ _ _)) => some [.elem n i]
    | _ => none)
  | .ptr n i => some [.ptr n i]
  | .eptr n i k => some [.eptr n i k]
  | .eelem n i j k => some [.eelem n i j k]
  | .iptr t x => some [.iptr t x]
  | .ibox l i => some [.ibox l i]
  | .fn f c => some [.fn f c]
  | .nilsl => some [.nilsl]
  | _ => none
/-- The elements of a slice, whose own data nothing changes. -/
def srcSl (H : Hp) (t : Ty) : AV → Option (Unit → List t.den)
  | .sl u l => castT (.sl u) (.sl t) l
  | .nilsl => some fun _ => []
  | .ref n => (match H[n]? with
    | some (some (.row _ u l)) => castT (.sl u) (.sl t) l
    | _ => none)
  | .elem n i => (match H[n]? with
    | some (some (.rows _ _ u l)) => castT (.sl u) (.sl t) fun _ => getR u (l ()) (i ())
    | _ => none)
  | _ => none
def viewSl (H : Hp) (t : Ty) (x : AV) : Option (Unit → List t.den) :=
  match x with
  | .ref n => (match H[n]? with
    | some (some (.row _ u l)) => castT (.sl u) (.sl t) l
    | some (some (.rows _ _ u l)) => castT (.sl (.sl u)) (.sl t) l
    | _ => none)
  | x => srcSl H t x
def viewC (H : Hp) : (t : Ty) → List AV → Option ((Unit → t.den) × List AV)
  | .int, l => (match l with | .int x :: r => some (x, r) | _ => none)
  | .bool, l => (match l with | x :: r => (asB x).map fun y => (y, r) | _ => none)
  | .str, l => (match l with | .str x :: r => some (x, r) | _ => none)
  | .sl t, l => (match l with | x :: r => (viewSl H t x).map fun y => (y, r) | _ => none)
  | .pr a b, l => (match viewC H a l with
    | some (x, r) => (match viewC H b r with
      | some (y, r') => some (fun _ => (x (), y ()), r')
      | none => none)
    | none => none)
def viewD (H : Hp) (t : Ty) (x : AV) : Option (Unit → t.den) :=
  match x with
  | .agg u y => if (t.isPr) = true then castT u t y else none
  | .cells l => if (t.isPr) = true then (match viewC H t l with | some (y, []) => some y | _ => none) else none
  | x => if (t.isPr) = true then none else (match viewC H t [x] with | some (y, []) => some y | _ => none)
def zcU : Ty → List AV
  | .int => [.int fun _ => 0]
  | .bool => [.lit false]
  | .str => [.str fun _ => ByteArray.empty]
  | .sl _ => [.nilsl]
  | .pr a b => zcU a ++ zcU b
def splice (cs : List AV) (i : Nat) (xs : List AV) : List AV := cs.take i ++ xs ++ cs.drop (i + xs.length)
def AS.new (S : AS) (d : Option Tmp) (x : AV) (b : Blk) : AS := { S with H := S.H ++ [some b] }.put d x
def setI {α : Type} (l : List α) (i : Int) (y : α) : List α := l.set i.toNat y
def setR (t : Ty) (l : List (List t.den)) (i j : Int) (y : t.den) : List (List t.den) := l.set i.toNat ((getR t l i).set j.toNat y)
def partR (H : Hp) (e2 : TypeId) (tt : Ty) : AV → Option ((Unit → List tt.den) × List Nat)
  | .ref m => (match H[m]? with
    | some (some (.row e' u l)) => if (e' == e2) = true then (castT (.sl u) (.sl tt) l).map fun y => (y, [m]) else none
    | _ => none)
  | .nilsl => some (fun _ => [], [])
  | _ => none
def storeF (T : Tab) (S : AS) (dst : Option Tmp) (t : TypeId) (a x : AV) : Option AS :=
  match a with
  | .ptr n i => (match S.H[n]? with
    | some (some (.box e cs)) => (match cellsOf S.H x with
      | some xs => if ((tl T t).size == xs.length && (i + xs.length).ble cs.length && !xs.isEmpty) = true then some ({ S with H := S.H.set n (some (.box e (splice cs i xs))) }.put dst .undef) else none
      | none => none)
    | _ => none)
  | .eptr n i k => (match S.H[n]? with
    | some (some (.row e tt l)) => if (k == tt.n && (tl T t).size == tt.n) = true then (viewD [] tt x).map fun y => { S with H := S.H.set n (some (.row e tt fun _ => setI (l ()) (i ()) (y ()))) }.put dst .undef else none
    | some (some (.rows e e2 tt l)) => if (k == 1 && (tl T t).size == 1) = true then (match partR S.H e2 tt x with
      | some (y, C) => if (C.contains n) = true then none else some (AS.put { S with tm := scrubL n false S.tm, H := (scrubH n false (dropC C S.H)).set n (some (.rows e e2 tt fun _ => setI (l ()) (i ()) (y ()))) } dst .undef)
      | none => none) else none
    | _ => none)
  | .eelem n i j k => (match S.H[n]? with
    | some (some (.rows e e2 tt l)) => if (k == tt.n && (tl T t).size == tt.n) = true then (viewD [] tt x).map fun y => { S with H := S.H.set n (some (.rows e e2 tt fun _ => setR tt (l ()) (i ()) (j ()) (y ()))) }.put dst .undef else none
    | _ => none)
  | _ => none
def partsU (S : AS) (tt : Ty) : Nat → List (Nat × Operand) → Option (Unit → List tt.den)
  | _, [] => some fun _ => []
  | i, (j, x) :: r => if (i == j) = true then (match viewD [] tt (S.ev x), partsU S tt (i + 1) r with
    | some y, some l => some fun _ => y () :: l ()
    | _, _ => none) else none
def buildF (T : Tab) (S : AS) (dst : Option Tmp) (t : TypeId) (len : Nat) (parts : List (Nat × Operand)) : Option AS :=
  match (tl T t).und with
  | .slice e => (match (tl T e).und, (tl T e).ty with
    | .slice e2, some (.sl tt) => (match parts with
      | [] => if (len == 0) = true then some (S.new dst (.ref S.H.length) (.rows e e2 tt fun _ => [])) else none
      | [(0, x)] => if (len == 1) = true then (match partR S.H e2 tt (S.ev x) with
        | some (y, C) => some (AS.put { S with H := dropC C S.H ++ [some (.rows e e2 tt fun _ => [y ()])] } dst (.ref S.H.length))
        | none => none) else none
      | _ => none)
    | .slice _, _ => none
    | _, some tt => if (parts.length == len && (len * tt.n).ble 16777216) = true then (partsU S tt 0 parts).map fun l => S.new dst (.ref S.H.length) (.row e tt l) else none
    | _, _ => none)
  | _ => none
def makeF (T : Tab) (S : AS) (dst : Option Tmp) (t : TypeId) (p q : AV) : Option (AS × Ob) :=
  match (tl T t).und, p, q with
  | .slice e, .int p, .int q => (match (tl T e).und, (tl T e).ty with
    | .slice e2, some (.sl tt) => some (S.new dst (.ref S.H.length) (.rows e e2 tt fun _ => List.replicate (p ()).toNat []), some fun _ => 0 ≤ p () ∧ p () ≤ q () ∧ q () ≤ 4294967296)
    | .slice _, _ => none
    | _, some tt => some (S.new dst (.ref S.H.length) (.row e tt fun _ => List.replicate (p ()).toNat (zden tt)), some fun _ => 0 ≤ p () ∧ p () ≤ q () ∧ q () ≤ 4294967296)
    | _, _ => none)
  | _, _, _ => none
def appF (T : Tab) (S : AS) (dst : Option Tmp) (t : TypeId) (s x : AV) : Option (AS × Ob) :=
  match (tl T t).und, s with
  | .slice e0, .ref n => (match S.H[n]? with
    | some (some (.row e tt l)) => if (e0 == e) = true then (match (tl T e).ty with
      | some tt' => (match castT tt' tt (fun _ => zden tt'), srcSl S.H tt x with
        | some _, some l2 => some (if (n.blt S.k) = true then AS.put { S with H := dropC [n] S.H ++ [some (.row e tt fun _ => l () ++ l2 ())] } dst (.ref S.H.length) else AS.put { S with tm := scrubL n true S.tm, H := (scrubH n true (dropC [] S.H)).set n (some (.row e tt fun _ => l () ++ l2 ())) } dst (.ref n), some fun _ => (l ()).length + (l2 ()).length ≤ 4294967296)
        | _, _ => none)
      | none => none) else none
    | some (some (.rows e e2 tt l)) => if (e0 == e) = true then (match x with
      | .ref m => (match S.H[m]? with
        | some (some (.rows e' e2' u l2)) => if (e' == e && e2' == e2 && !(m == n)) = true then (match castT (.sl (.sl u)) (.sl (.sl tt)) l2, (tl T e).ty with
          | some l3, some (.sl _) => if (n.blt S.k) = true then none else some (AS.put { S with tm := scrubL n true S.tm, H := (scrubH n true (dropC [m] S.H)).set n (some (.rows e e2 tt fun _ => l () ++ l3 ())) } dst (.ref n), some fun _ => (l ()).length + (l3 ()).length ≤ 4294967296)
          | _, _ => none) else none
        | _ => none)
      | _ => none) else none
    | _ => none)
  | .slice e0, .elem n i => (match S.H[n]? with
    | some (some (.rows e e2 tt l)) => if (e0 == e2) = true then (match (tl T e2).ty with
      | some tt' => (match castT tt' tt (fun _ => zden tt'), srcSl S.H tt x with
        | some _, some l2 => some (AS.put { S with tm := scrubL n false S.tm, H := (scrubH n false S.H).set n (some (.rowsH e e2 tt l i)) ++ [some (.row e2 tt fun _ => getR tt (l ()) (i ()) ++ l2 ())] } dst (.ref S.H.length), some fun _ => (getR tt (l ()) (i ())).length + (l2 ()).length ≤ 4294967296)
        | _, _ => none)
      | none => none) else none
    | _ => none)
  | .slice e, .nilsl => (match (tl T e).und, (tl T e).ty with
    | .slice _, _ => none
    | _, some tt => (match srcSl S.H tt x with
      | some l2 => some (S.new dst (.ref S.H.length) (.row e tt l2), some fun _ => (l2 ()).length ≤ 4294967296)
      | none => none)
    | _, _ => none)
  | _, _ => none
/-- A row is handed back into its place. -/
def storeH (T : Tab) (S : AS) (dst : Option Tmp) (t : TypeId) (a x : AV) : Option (AS × Ob) :=
  match a with
  | .eptr n i k => (match S.H[n]? with
    | some (some (.rowsH e e2 tt l j)) => if (k == 1 && (tl T t).size == 1) = true then (match partR S.H e2 tt x with
      | some (y, C) => if (C.contains n) = true then none else some (AS.put { S with tm := scrubL n false S.tm, H := (scrubH n false (dropC C S.H)).set n (some (.rows e e2 tt fun _ => setI (l ()) (i ()) (y ()))) } dst .undef, some fun _ => (i ()).toNat = (j ()).toNat)
      | none => none) else none
    | _ => none)
  | _ => none
def memF (T : Tab) (S : AS) (o : Oper) : Option (AS × Ob) :=
  match o.op with
  | .box e x => (cellsOf S.H (S.ev x)).map fun cs => (S.new o.dst (.ptr S.H.length 0) (.box e cs), none)
  | .alloc e => (match (tl T e).ty with
    | some tt => some (S.new o.dst (.ptr S.H.length 0) (.box e (zcU tt)), none)
    | none => none)
  | .store t a x => (match storeH T S o.dst t (S.ev a) (S.ev x) with
    | some r => some r
    | none => (storeF T S o.dst t (S.ev a) (S.ev x)).map fun S' => (S', none))
  | .buildSlice t len parts => (buildF T S o.dst t len parts.toList).map fun S' => (S', none)
  | .makeSlice t l c => makeF T S o.dst t (S.ev l) (S.ev c)
  | .call c => (match c.callee, c.argTypes.toList, c.args.toList with
    | .builtin .append, [t, t'], [s, x] => if (t == t') = true then appF T S o.dst t (S.ev s) (S.ev x) else none
    | _, _, _ => none)
  | _ => none
end Go.Proofs.Ytbkdmnohpjihgaa.M

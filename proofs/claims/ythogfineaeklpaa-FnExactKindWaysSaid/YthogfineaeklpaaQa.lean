/- Abs1, Abs2, Abs3, Abs4, Abs5, Abs6, Abs7, Abs8, Abs9, Abs10, Abs11, Abs12, Abs13, Abs14, Eq2, in one text. -/
import Derived.Test.YthogfineaeklpaaProg
import Derived.WalkKit
import Derived.Below
import Derived.OwnWalk
import Derived.Laws.AppendOwn
import Derived.Great.BuildSlice
import Derived.StillTail
import Derived.Laws.StructEq
/- Data as Lean values: what lies in memory reads as a value of a Lean type. -/
namespace Go.Proofs.Ythogfineaeklpaa.Abs
open Go.RowKit
set_option linter.unusedVariables false

inductive Ty where
  | int | bool | str | u64
  | sl (t : Ty)
  | pr (a b : Ty)
  /-- An array of k + 1 elements. -/
  | ar (k : Nat) (t : Ty)
  deriving DecidableEq

@[reducible] def Ty.den : Ty → Type
  | .int => Int
  | .bool => Bool
  | .str => ByteArray
  | .u64 => Int
  | .sl t => List t.den
  | .pr a b => a.den × b.den
  | .ar _ t => List t.den
def Ty.n : Ty → Nat
  | .int => 1
  | .bool => 1
  | .str => 1
  | .u64 => 1
  | .sl _ => 1
  | .pr a b => a.n + b.n
  | .ar k t => (k + 1) * t.n
theorem Ty.n_pos : ∀ t : Ty, 0 < t.n
  | .int => by decide
  | .bool => by decide
  | .str => by decide
  | .u64 => by decide
  | .sl _ => by simp [Ty.n]
  | .pr a b => by have := Ty.n_pos a; simp only [Ty.n]; omega
  | .ar k t => by simp only [Ty.n]; exact Nat.mul_pos (by omega) (Ty.n_pos t)

def zden : (t : Ty) → t.den
  | .int => (0 : Int)
  | .bool => false
  | .str => ByteArray.empty
  | .u64 => (0 : Int)
  | .sl t => ([] : List t.den)
  | .pr a b => (zden a, zden b)
  | .ar k t => List.replicate (k + 1) (zden t)
/-- The cells read as this value; the memory behind them lies in blocks that are 'ok'. -/
def Rep (ok : Nat → Prop) (w : World) : (t : Ty) → t.den → List Value → Prop
  | .int, x, cs => cs = [.int .i64 x]
  | .bool, x, cs => cs = [.bool x]
  | .str, x, cs => cs = [.string x]
  | .u64, x, cs => cs = [.int .u64 x]
  | .sl t, l, cs => ∃ (a : Option Addr) (cap : Nat), cs = [.slice a (List.length l) cap] ∧ List.length l ≤ cap ∧ List.length l ≤ maxLen ∧
      (l = [] ∨ ∃ (b o : Nat) (xs : List Value), a = some ⟨b, o, none⟩ ∧ ok b ∧ b < w.heap.size ∧ xs.length = List.length l * t.n ∧
        (∀ j v, xs[j]? = some v → w.cell? ⟨b, o + j, none⟩ = some v) ∧
        (∀ (i : Nat) (y : t.den), l[i]? = some y → Rep ok w t y ((xs.drop (i * t.n)).take t.n)))
  | .pr a b, x, cs => ∃ (c1 c2 : List Value), cs = c1 ++ c2 ∧ Rep ok w a x.1 c1 ∧ Rep ok w b x.2 c2
  | .ar k t, l, cs => List.length l = k + 1 ∧ cs.length = (k + 1) * t.n ∧ ∀ (i : Nat) (y : t.den), l[i]? = some y → Rep ok w t y ((cs.drop (i * t.n)).take t.n)
theorem Rep.length {ok : Nat → Prop} {w : World} : ∀ {t : Ty} {x : t.den} {cs : List Value}, Rep ok w t x cs → cs.length = t.n
  | .int, _, _, h => by unfold Rep at h; subst h; rfl
  | .bool, _, _, h => by unfold Rep at h; subst h; rfl
  | .str, _, _, h => by unfold Rep at h; subst h; rfl
  | .u64, _, _, h => by unfold Rep at h; subst h; rfl
  | .sl t, _, _, h => by unfold Rep at h; obtain ⟨a, cap, rfl, _⟩ := h; rfl
  | .pr a b, _, _, h => by
    unfold Rep at h
    obtain ⟨c1, c2, rfl, h1, h2⟩ := h
    rw [List.length_append, h1.length, h2.length]; rfl
  | .ar k t, _, _, h => by unfold Rep at h; exact h.2.1
theorem Rep.mono {ok ok' : Nat → Prop} {w w' : World} (hs : w.heap.size ≤ w'.heap.size) (hk : ∀ b, ok b → b < w.heap.size → ok' b ∧ w'.heap[b]? = w.heap[b]?) :
    ∀ {t : Ty} {x : t.den} {cs : List Value}, Rep ok w t x cs → Rep ok' w' t x cs
  | .int, _, _, h => by unfold Rep at h ⊢; exact h
  | .bool, _, _, h => by unfold Rep at h ⊢; exact h
  | .str, _, _, h => by unfold Rep at h ⊢; exact h
  | .u64, _, _, h => by unfold Rep at h ⊢; exact h
  | .sl t, _, _, h => by
    unfold Rep at h ⊢
    obtain ⟨a, cap, h1, h2, h3, h4⟩ := h
    refine ⟨a, cap, h1, h2, h3, ?_⟩
    rcases h4 with h4 | ⟨b, o, xs, h5, h6, h7, h8, h9, h10⟩
    · exact .inl h4
    · obtain ⟨k1, k2⟩ := hk b h6 h7
      exact .inr ⟨b, o, xs, h5, k1, by omega, h8, fun j v hj => (World.cell?_of_block (a := ⟨b, o + j, none⟩) k2).trans (h9 j v hj), fun i y hy => Rep.mono hs hk (h10 i y hy)⟩
  | .pr a b, _, _, h => by
    unfold Rep at h ⊢
    obtain ⟨c1, c2, h1, h2, h3⟩ := h
    exact ⟨c1, c2, h1, Rep.mono hs hk h2, Rep.mono hs hk h3⟩
  | .ar k t, _, _, h => by
    unfold Rep at h ⊢
    exact ⟨h.1, h.2.1, fun i y hy => Rep.mono hs hk (h.2.2 i y hy)⟩
/-- Cells of one cell each are values that a cell may hold. -/
theorem Rep.one {ok : Nat → Prop} {w : World} : ∀ {t : Ty} {x : t.den} {cs : List Value}, Rep ok w t x cs → ∀ v ∈ cs, v.oneCell' = true
  | .int, _, _, h => by unfold Rep at h; subst h; intro v hv; simp at hv; subst hv; rfl
  | .bool, _, _, h => by unfold Rep at h; subst h; intro v hv; simp at hv; subst hv; rfl
  | .str, _, _, h => by unfold Rep at h; subst h; intro v hv; simp at hv; subst hv; rfl
  | .u64, _, _, h => by unfold Rep at h; subst h; intro v hv; simp at hv; subst hv; rfl
  | .sl t, _, _, h => by unfold Rep at h; obtain ⟨a, cap, rfl, _⟩ := h; intro v hv; simp at hv; subst hv; rfl
  | .pr a b, _, _, h => by
    unfold Rep at h
    obtain ⟨c1, c2, rfl, h1, h2⟩ := h
    intro v hv
    rcases List.mem_append.1 hv with hv | hv
    · exact h1.one v hv
    · exact h2.one v hv
  | .ar k t, l, cs, h => by
    unfold Rep at h
    obtain ⟨h1, h2, h3⟩ := h
    intro v hv
    obtain ⟨j, hj, rfl⟩ := List.getElem_of_mem hv
    have hn := t.n_pos
    have hi : j / t.n < List.length l := by rw [h1]; exact (Nat.div_lt_iff_lt_mul hn).2 (by omega)
    have hr := h3 (j / t.n) l[j / t.n] (List.getElem?_eq_getElem hi)
    refine hr.one _ (List.mem_iff_getElem?.2 ⟨j % t.n, ?_⟩)
    have hm := Nat.mod_lt j hn
    have e : j / t.n * t.n + j % t.n = j := Nat.div_add_mod' j t.n
    rw [List.getElem?_take, if_pos hm, List.getElem?_drop, e, List.getElem?_eq_getElem hj]
end Go.Proofs.Ythogfineaeklpaa.Abs
/- Abstract values, abstract memory, and how they stand to the world. -/
namespace Go.Proofs.Ythogfineaeklpaa.Abs
open Go.RowKit
set_option linter.unusedVariables false

abbrev TV := (t : Ty) × t.den
inductive RA where
  | v (t : Ty) (x : t.den)
  | r (n : Nat)
inductive AV where
  | int (x : Int) | bool (b : Bool) | str (s : ByteArray) | u8 (x : Int) | u64 (x : Int)
  | sl (t : Ty) (l : List t.den)
  | agg (t : Ty) (x : t.den)
  | ref (n : Nat)
  | ptr (n i : Nat)
  | eptr (n i k : Nat)
  | iptr (t : Ty) (x : t.den)
  | tup (l : List RA)
  | fn (f : FuncId) (cap : List TV)
  | ifn (f : FuncId) (cap : List TV)
  | fn2 (g f : FuncId) (cap : List TV)
  | nilsl | undef | junk
def inj : (t : Ty) → t.den → AV
  | .int, x => .int x
  | .bool, x => .bool x
  | .str, x => .str x
  | .u64, x => .u64 x
  | .sl t, l => .sl t l
  | .pr a b, x => .agg (.pr a b) x
  | .ar k t, x => .agg (.ar k t) x
def Ty.isPr : Ty → Bool
  | .pr _ _ => true
  | .ar _ _ => true
  | _ => false
def RA.av : RA → AV
  | .v t x => inj t x
  | .r n => .ref n
inductive Blk where
  | row (e : TypeId) (t : Ty) (l : List t.den)
  | box (e : TypeId) (cs : List AV)
abbrev Hp := List (Option Blk)
structure AS where
  tm : List AV
  H : Hp

def ownB : Value → Option Nat
  | .slice (some a) _ _ => some a.block
  | .pointer (some a) => some a.block
  | _ => none
def okB (H : Hp) (val : Nat → Value) (b : Nat) : Prop := ∀ n B, H[n]? = some (some B) → ownB (val n) ≠ some b

/-- An immutable place. -/
def PRel (ok : Nat → Prop) (w : World) (t : Ty) (x : t.den) (v : Value) : Prop :=
  ∃ b o cs, v = .pointer (some ⟨b, o, none⟩) ∧ ok b ∧ b < w.heap.size ∧ Rep ok w t x cs ∧ ∀ j u, cs[j]? = some u → w.cell? ⟨b, o + j, none⟩ = some u
def IRel (ok : Nat → Prop) (w : World) (t : Ty) (x : t.den) (v : Value) : Prop :=
  if t.isPr then ∃ cs : List Value, v = .agg cs.toArray ∧ Rep ok w t x cs else Rep ok w t x [v]
def RRel (ok : Nat → Prop) (w : World) (N : Nat) (val : Nat → Value) : RA → Value → Prop
  | .v t x, u => IRel ok w t x u
  | .r n, u => n < N ∧ u = val n
/-- A variable that holds a function and is written no more. -/
def IFRel (ok : Nat → Prop) (w : World) (f : FuncId) (cap : List TV) (v : Value) : Prop :=
  ∃ (b : Nat) (u : Value), v = .pointer (some ⟨b, 0, none⟩) ∧ ok b ∧ b < w.heap.size ∧ w.cell? ⟨b, 0, none⟩ = some u ∧
    ∃ vs : List Value, u = .func (.func f) #[] vs.toArray ∧ vs.length = cap.length ∧ ∀ (i : Nat) (c : TV), cap[i]? = some c → ∃ u, vs[i]? = some u ∧ PRel ok w c.1 c.2 u
def VRel (ok : Nat → Prop) (w : World) (N : Nat) (val : Nat → Value) : AV → Value → Prop
  | .int x, v => v = .int .i64 x
  | .bool b, v => v = .bool b
  | .str s, v => v = .string s
  | .u8 x, v => v = .int .u8 x
  | .u64 x, v => v = .int .u64 x
  | .sl t l, v => Rep ok w (.sl t) l [v]
  | .agg t x, v => ∃ cs : List Value, v = .agg cs.toArray ∧ Rep ok w t x cs
  | .ref n, v => n < N ∧ v = val n
  | .ptr n i, v => n < N ∧ ∃ g, val n = .pointer (some ⟨g, 0, none⟩) ∧ v = .pointer (some ⟨g, i, none⟩)
  | .eptr n i k, v => n < N ∧ ∃ g len cap, val n = .slice (some ⟨g, 0, none⟩) len cap ∧ v = .pointer (some ⟨g, i * k, none⟩)
  | .iptr t x, v => PRel ok w t x v
  | .tup l, v => ∃ vs : List Value, v = .tuple vs.toArray ∧ vs.length = l.length ∧ ∀ (i : Nat) (r : RA), l[i]? = some r → ∃ u, vs[i]? = some u ∧ RRel ok w N val r u
  | .fn f cap, v => ∃ vs : List Value, v = .func (.func f) #[] vs.toArray ∧ vs.length = cap.length ∧ ∀ (i : Nat) (c : TV), cap[i]? = some c → ∃ u, vs[i]? = some u ∧ PRel ok w c.1 c.2 u
  | .ifn f cap, v => IFRel ok w f cap v
  | .fn2 g f cap, v => ∃ p, v = .func (.func g) #[] #[p] ∧ IFRel ok w f cap p
  | .nilsl, v => v = .slice none 0 0
  | .undef, v => v = .tuple #[]
  | .junk, _ => True

/-- What is read stays as it is. -/
structure Keep (ok ok' : Nat → Prop) (w w' : World) (N N' : Nat) (val val' : Nat → Value) : Prop where
  size : w.heap.size ≤ w'.heap.size
  ok : ∀ b, ok b → b < w.heap.size → ok' b ∧ w'.heap[b]? = w.heap[b]?
  le : N ≤ N'
  val : ∀ n, n < N → val' n = val n
section
variable {ok ok' : Nat → Prop} {w w' : World} {N N' : Nat} {val val' : Nat → Value}
theorem PRel.keep (K : Keep ok ok' w w' N N' val val') {t : Ty} {x : t.den} {v : Value} (h : PRel ok w t x v) : PRel ok' w' t x v := by
  obtain ⟨b, o, cs, h1, h2, h3, h4, h5⟩ := h
  obtain ⟨k1, k2⟩ := K.ok b h2 h3
  exact ⟨b, o, cs, h1, k1, Nat.lt_of_lt_of_le h3 K.size, h4.mono K.size K.ok, fun j u hu => (World.cell?_of_block (a := ⟨b, o + j, none⟩) k2).trans (h5 j u hu)⟩
theorem IFRel.keep (K : Keep ok ok' w w' N N' val val') {f : FuncId} {cap : List TV} {v : Value} (h : IFRel ok w f cap v) : IFRel ok' w' f cap v := by
  obtain ⟨b, u, h1, h2, h3, h4, vs, h5, h6, h7⟩ := h
  obtain ⟨k1, k2⟩ := K.ok b h2 h3
  exact ⟨b, u, h1, k1, Nat.lt_of_lt_of_le h3 K.size, (World.cell?_of_block (a := ⟨b, 0, none⟩) k2).trans h4, vs, h5, h6, fun i c hc => let ⟨u, hu, hR⟩ := h7 i c hc; ⟨u, hu, hR.keep K⟩⟩
theorem IRel.keep (K : Keep ok ok' w w' N N' val val') {t : Ty} {x : t.den} {v : Value} (h : IRel ok w t x v) : IRel ok' w' t x v := by
  unfold IRel at h ⊢
  split
  · rename_i ht
    rw [if_pos ht] at h
    obtain ⟨cs, h1, h2⟩ := h
    exact ⟨cs, h1, h2.mono K.size K.ok⟩
  · rename_i ht
    rw [if_neg ht] at h
    exact h.mono K.size K.ok
theorem RRel.keep (K : Keep ok ok' w w' N N' val val') {r : RA} {v : Value} (h : RRel ok w N val r v) : RRel ok' w' N' val' r v := by
  cases r with
  | v t x => exact IRel.keep K h
  | r n => exact ⟨Nat.lt_of_lt_of_le h.1 K.le, by rw [K.val n h.1]; exact h.2⟩
theorem VRel.keep (K : Keep ok ok' w w' N N' val val') {x : AV} {v : Value} (h : VRel ok w N val x v) : VRel ok' w' N' val' x v := by
  cases x with
  | int x => exact h
  | bool b => exact h
  | str s => exact h
  | u8 x => exact h
  | u64 x => exact h
  | sl t l => exact Rep.mono K.size K.ok h
  | agg t x => obtain ⟨cs, h1, h2⟩ := h; exact ⟨cs, h1, h2.mono K.size K.ok⟩
  | ref n => exact ⟨Nat.lt_of_lt_of_le h.1 K.le, by rw [K.val n h.1]; exact h.2⟩
  | ptr n i => obtain ⟨h0, g, h1, h2⟩ := h; exact ⟨Nat.lt_of_lt_of_le h0 K.le, g, by rw [K.val n h0]; exact h1, h2⟩
  | eptr n i k => obtain ⟨h0, g, l, c, h1, h2⟩ := h; exact ⟨Nat.lt_of_lt_of_le h0 K.le, g, l, c, by rw [K.val n h0]; exact h1, h2⟩
  | iptr t x => exact PRel.keep K h
  | tup l =>
    obtain ⟨vs, h1, h2, h3⟩ := h
    exact ⟨vs, h1, h2, fun i r hr => let ⟨u, hu, hR⟩ := h3 i r hr; ⟨u, hu, hR.keep K⟩⟩
  | fn f cap =>
    obtain ⟨vs, h1, h2, h3⟩ := h
    exact ⟨vs, h1, h2, fun i r hr => let ⟨u, hu, hR⟩ := h3 i r hr; ⟨u, hu, hR.keep K⟩⟩
  | ifn f cap => exact IFRel.keep K h
  | fn2 g f cap => obtain ⟨p, h1, h2⟩ := h; exact ⟨p, h1, IFRel.keep K h2⟩
  | nilsl => exact h
  | undef => exact h
  | junk => trivial
end

def RepL (ok : Nat → Prop) (w : World) (t : Ty) (l : List t.den) (xs : List Value) : Prop :=
  xs.length = l.length * t.n ∧ ∀ (i : Nat) (y : t.den), l[i]? = some y → Rep ok w t y ((xs.drop (i * t.n)).take t.n)
def BRel (base : Nat) (ok : Nat → Prop) (w : World) (N : Nat) (val : Nat → Value) (n : Nat) : Blk → Prop
  | .row e t l => ∃ xs, w.ownsRow base e t.n (val n) l.length xs ∧ RepL ok w t l xs
  | .box e cs => ∃ g cur, val n = .pointer (some ⟨g, 0, none⟩) ∧ base ≤ g ∧ w.heap[g]? = some (.cells cur e (0, 0)) ∧ cur.size = cs.length ∧
      ∀ (i : Nat) (c : AV), cs[i]? = some c → ∃ u, cur[i]? = some u ∧ u.oneCell' = true ∧ VRel ok w N val c u
structure Rl (w0 : World) (S : AS) (a : Act) (w : World) (val : Nat → Value) : Prop where
  below : Below w0.heap.size w0 w
  len : a.tmps.size = S.tm.length
  defers : a.defers = []
  tmps : ∀ t, VRel (okB S.H val) w S.H.length val (S.tm.getD t .undef) (a.tmps.getD t undef)
  heap : ∀ n B, S.H[n]? = some (some B) → BRel w0.heap.size (okB S.H val) w S.H.length val n B
  apart : ∀ n m B C g, S.H[n]? = some (some B) → S.H[m]? = some (some C) → ownB (val n) = some g → ownB (val m) = some g → n = m

/-- Only the tape has moved on. -/
theorem keep_drawn (ok : Nat → Prop) (w : World) (N : Nat) (val : Nat → Value) (d : Nat) : Keep ok ok w { w with drawn := d } N N val val :=
  ⟨Nat.le_refl _, fun b h _ => ⟨h, rfl⟩, Nat.le_refl _, fun _ _ => rfl⟩
theorem ownsRow_heap {w w' : World} {base : Nat} {e : TypeId} {k : Nat} {v : Value} {n : Nat} {xs : List Value} (h : w.ownsRow base e k v n xs)
    (hh : ∀ g, ownB v = some g → w'.heap[g]? = w.heap[g]?) : w'.ownsRow base e k v n xs := by
  refine ⟨h.1, ?_⟩
  rcases h.2 with h2 | ⟨g, cap, cur, hv, hb, hg, r⟩
  · exact .inl h2
  · exact .inr ⟨g, cap, cur, hv, hb, by rw [hh g (by rw [hv]; rfl)]; exact hg, r⟩
theorem BRel.keep {base : Nat} {ok ok' : Nat → Prop} {w w' : World} {N N' : Nat} {val val' : Nat → Value} (K : Keep ok ok' w w' N N' val val') {n : Nat} (hn : n < N) {B : Blk}
    (hh : ∀ g, ownB (val n) = some g → w'.heap[g]? = w.heap[g]?) (h : BRel base ok w N val n B) : BRel base ok' w' N' val' n B := by
  cases B with
  | row e t l =>
    obtain ⟨xs, h1, h2, h3⟩ := h
    refine ⟨xs, ?_, h2, fun i y hy => (h3 i y hy).mono K.size K.ok⟩
    rw [K.val n hn]
    exact ownsRow_heap h1 hh
  | box e cs =>
    obtain ⟨g, cur, h1, h2, h3, h4, h5⟩ := h
    refine ⟨g, cur, by rw [K.val n hn]; exact h1, h2, by rw [hh g (by rw [h1]; rfl)]; exact h3, h4, fun i c hc => ?_⟩
    obtain ⟨u, hu, ho, hv⟩ := h5 i c hc
    exact ⟨u, hu, ho, hv.keep K⟩
theorem lt_of_some {H : Hp} {n : Nat} {B : Blk} (h : H[n]? = some (some B)) : n < H.length := (List.getElem?_eq_some_iff.1 h).1
/-- Same abstract memory: the world has grown, old blocks are as they were. -/
theorem Rl.grow {w0 w w' : World} {S : AS} {a : Act} {val : Nat → Value} (h : Rl w0 S a w val) (hb : Below w.heap.size w w') : Rl w0 S a w' val := by
  have K : Keep (okB S.H val) (okB S.H val) w w' S.H.length S.H.length val val := ⟨hb.size, fun b hk hlt => ⟨hk, hb.block b hlt⟩, Nat.le_refl _, fun _ _ => rfl⟩
  refine ⟨h.below.trans (hb.mono h.below.size), h.len, h.defers, fun t => (h.tmps t).keep K, fun n B hB => ?_, h.apart⟩
  refine (h.heap n B hB).keep K (lt_of_some hB) fun g hg => ?_
  have hH := h.heap n B hB
  cases B with
  | row e t l =>
    obtain ⟨xs, h1, _⟩ := hH
    rcases h1.2 with ⟨h2, _⟩ | ⟨g', cap, cur, hv, _, hgg, _⟩
    · rw [h2] at hg; cases hg
    · rw [hv] at hg; cases hg
      exact hb.block g' (Array.getElem?_eq_some_iff.1 hgg).1
  | box e cs =>
    obtain ⟨g', cur, hv, _, hgg, _⟩ := hH
    rw [hv] at hg; cases hg
    exact hb.block g' (Array.getElem?_eq_some_iff.1 hgg).1
def AS.put (S : AS) (d : Option Tmp) (v : AV) : AS :=
  match d with
  | some t => { S with tm := S.tm.set t v }
  | none => S
theorem Rl.put {w0 w : World} {S : AS} {a : Act} {val : Nat → Value} (h : Rl w0 S a w val) (d : Option Tmp) {x : AV} {v : Value} (hv : VRel (okB S.H val) w S.H.length val x v) : Rl w0 (S.put d x) (a.put d v) w val := by
  cases d with
  | none => exact h
  | some d =>
    refine ⟨h.below, by simp [Act.put, AS.put, h.len], h.defers, fun t => ?_, h.heap, h.apart⟩
    have := h.tmps t
    simp only [Act.put, AS.put, List.getD_eq_getElem?_getD, Array.getD_eq_getD_getElem?] at this ⊢
    by_cases hd : d = t
    · subst hd
      by_cases hlt : d < S.tm.length
      · rw [List.getElem?_set_self hlt, Array.getElem?_setIfInBounds_self_of_lt (by rw [h.len]; exact hlt)]
        exact hv
      · have e1 : (S.tm.set d x)[d]? = none := List.getElem?_eq_none (by rw [List.length_set]; exact Nat.le_of_not_lt hlt)
        have e2 : (a.tmps.setIfInBounds d v)[d]? = none := Array.getElem?_eq_none (by rw [Array.size_setIfInBounds, h.len]; exact Nat.le_of_not_lt hlt)
        rw [e1, e2]
        rfl
    · rw [List.getElem?_set_ne hd, Array.getElem?_setIfInBounds_ne hd]
      exact this
end Go.Proofs.Ythogfineaeklpaa.Abs
/- Operations that make no memory: what they yield. -/
namespace Go.Proofs.Ythogfineaeklpaa.Abs
open Go.RowKit
set_option linter.unusedVariables false

def comp : (t : Ty) → t.den → Nat → Nat → Option TV
  | .pr a b, x, off, sz => if off = 0 ∧ sz = a.n + b.n then some ⟨.pr a b, x⟩ else if off + sz ≤ a.n then comp a x.1 off sz else if a.n ≤ off then comp b x.2 (off - a.n) sz else none
  | .int, x, off, sz => if off = 0 ∧ sz = 1 then some ⟨.int, x⟩ else none
  | .bool, x, off, sz => if off = 0 ∧ sz = 1 then some ⟨.bool, x⟩ else none
  | .str, x, off, sz => if off = 0 ∧ sz = 1 then some ⟨.str, x⟩ else none
  | .u64, x, off, sz => if off = 0 ∧ sz = 1 then some ⟨.u64, x⟩ else none
  | .sl t, x, off, sz => if off = 0 ∧ sz = 1 then some ⟨.sl t, x⟩ else none
  | .ar k t, x, off, sz => if off = 0 ∧ sz = (k + 1) * t.n then some ⟨.ar k t, x⟩ else if sz = t.n ∧ off % t.n = 0 ∧ off / t.n < k + 1 then some ⟨t, List.getD x (off / t.n) (zden t)⟩ else none
theorem take_one (cs : List Value) (h : cs.length = 1) : (cs.drop 0).take 1 = cs := by simp [List.take_of_length_le, h]
theorem comp_rep {ok : Nat → Prop} {w : World} : ∀ {t : Ty} {x : t.den} {cs : List Value} {off sz : Nat} {c : TV}, comp t x off sz = some c → Rep ok w t x cs → Rep ok w c.1 c.2 ((cs.drop off).take sz) ∧ c.1.n = sz
  | .pr a b, x, cs, off, sz, c, hc, h => by
    have hl := h.length
    unfold comp at hc
    split at hc
    · rename_i h0
      obtain ⟨rfl, rfl⟩ := h0
      cases hc
      refine ⟨?_, rfl⟩
      rw [List.drop_zero, List.take_of_length_le (by rw [hl]; exact Nat.le_refl _)]
      exact h
    · unfold Rep at h
      obtain ⟨c1, c2, rfl, h1, h2⟩ := h
      have l1 := h1.length
      split at hc
      · rename_i hle
        have := comp_rep hc h1
        rw [List.drop_append_of_le_length (by omega), List.take_append_of_le_length (by simp; omega)]
        exact this
      · split at hc
        · rename_i hle
          have := comp_rep hc h2
          rw [List.drop_append]
          rw [List.drop_eq_nil_of_le (by omega : c1.length ≤ off), List.nil_append, l1]
          exact this
        · cases hc
  | .int, x, cs, off, sz, c, hc, h => by
    unfold comp at hc
    split at hc
    · rename_i h0; obtain ⟨rfl, rfl⟩ := h0; cases hc; rw [take_one _ h.length]; exact ⟨h, rfl⟩
    · cases hc
  | .bool, x, cs, off, sz, c, hc, h => by
    unfold comp at hc
    split at hc
    · rename_i h0; obtain ⟨rfl, rfl⟩ := h0; cases hc; rw [take_one _ h.length]; exact ⟨h, rfl⟩
    · cases hc
  | .str, x, cs, off, sz, c, hc, h => by
    unfold comp at hc
    split at hc
    · rename_i h0; obtain ⟨rfl, rfl⟩ := h0; cases hc; rw [take_one _ h.length]; exact ⟨h, rfl⟩
    · cases hc
  | .u64, x, cs, off, sz, c, hc, h => by
    unfold comp at hc
    split at hc
    · rename_i h0; obtain ⟨rfl, rfl⟩ := h0; cases hc; rw [take_one _ h.length]; exact ⟨h, rfl⟩
    · cases hc
  | .sl t, x, cs, off, sz, c, hc, h => by
    unfold comp at hc
    split at hc
    · rename_i h0; obtain ⟨rfl, rfl⟩ := h0; cases hc; rw [take_one _ h.length]; exact ⟨h, rfl⟩
    · cases hc
  | .ar k t, x, cs, off, sz, c, hc, h => by
    have hl := h.length
    unfold comp at hc
    split at hc
    · rename_i h0
      obtain ⟨rfl, rfl⟩ := h0
      cases hc
      refine ⟨?_, rfl⟩
      rw [List.drop_zero, List.take_of_length_le (by rw [hl]; exact Nat.le_refl _)]
      exact h
    · split at hc
      · rename_i h0
        obtain ⟨rfl, h2, h3⟩ := h0
        cases hc
        refine ⟨?_, rfl⟩
        unfold Rep at h
        obtain ⟨k1, k2, k3⟩ := h
        have hi : off / t.n < List.length x := by omega
        have := k3 (off / t.n) (List.getD x (off / t.n) (zden t)) (by rw [List.getD_eq_getElem?_getD, List.getElem?_eq_getElem hi]; rfl)
        rw [Nat.div_mul_cancel (Nat.dvd_of_mod_eq_zero h2)] at this
        exact this
      · cases hc

def isAggB (P : Program) (t : TypeId) : Option Bool :=
  match P.underlying t with
  | some (.struct _) => some true
  | some (.array _ _) => some true
  | some _ => some false
  | none => none
def szOf (P : Program) (t : TypeId) : Option Nat := (P.info? t).map (·.size)
def fits (P : Program) (t : TypeId) (tt : Ty) : Bool := szOf P t == some tt.n && isAggB P t == some tt.isPr
def fieldOf (P : Program) (t : TypeId) (f : Nat) : Option (Nat × TypeId) :=
  match P.underlying t with
  | some (.struct fs) => (fs[f]?).map fun f => (f.offset, f.type)
  | _ => none
def slElem (P : Program) (t : TypeId) : Option TypeId :=
  match P.underlying t with
  | some (.slice e) => some e
  | _ => none
def arElem (P : Program) (t : TypeId) : Option (Nat × TypeId) :=
  match P.underlying t with
  | some (.array n e) => some (n, e)
  | _ => none
theorem fits_size {P : Program} {t : TypeId} {tt : Ty} (h : fits P t tt = true) : szOf P t = some tt.n := by simp [fits] at h; exact h.1
theorem fits_agg {P : Program} {t : TypeId} {tt : Ty} (h : fits P t tt = true) : isAggB P t = some tt.isPr := by simp [fits] at h; exact h.2
theorem slElem_und {P : Program} {t e : TypeId} (h : slElem P t = some e) : P.underlying t = some (.slice e) := by
  unfold slElem at h; split at h
  · rename_i e' he; cases h; exact he
  · cases h
theorem arElem_und {P : Program} {t e : TypeId} {n : Nat} (h : arElem P t = some (n, e)) : P.underlying t = some (.array n e) := by
  unfold arElem at h; split at h
  · rename_i e' he; cases h; assumption
  · cases h
section
variable {P : Program} {w : World}
theorem run_sz {t : TypeId} {n : Nat} (h : szOf P t = some n) : (sizeOf t).run P w = .ok n w := by
  unfold szOf at h
  cases hi : P.info? t with
  | none => rw [hi] at h; cases h
  | some i =>
    rw [hi] at h
    cases h
    simp [sizeOf, typeInfo, program, Sem.run, hi, bind, Sem.bind, pure]
theorem run_agg {t : TypeId} {b : Bool} (h : isAggB P t = some b) : (isAgg t).run P w = .ok b w := by
  unfold isAggB at h
  unfold isAgg
  simp only [bind, Sem.bind, underlying, program]
  split at h <;> simp_all [Sem.run, Sem.bind, pure]
  all_goals (first | (subst h; split <;> simp_all [Sem.run]) | skip)
end

def cv : Value → AV
  | .int .i64 x => .int x
  | .int .u8 x => .u8 x
  | .int .u64 x => .u64 x
  | .bool b => .bool b
  | .string s => .str s
  | .slice none 0 0 => .nilsl
  | .tuple vs => if vs.size = 0 then .undef else .junk
  | _ => .junk
theorem cv_rel {ok : Nat → Prop} {w : World} {N : Nat} {val : Nat → Value} (v : Value) : VRel ok w N val (cv v) v := by
  unfold cv
  split <;> (try split) <;> first | rfl | trivial | skip
  rename_i vs h
  have : vs = #[] := Array.eq_empty_of_size_eq_zero h
  subst this; rfl
def AS.ev (S : AS) : Operand → AV
  | .tmp t => S.tm.getD t .undef
  | .const v => cv v
  | .global _ => .junk
  | .func f => .fn f []
theorem Rl.ev {w0 w : World} {S : AS} {a : Act} {val : Nat → Value} (h : Rl w0 S a w val) (x : Operand) : VRel (okB S.H val) w S.H.length val (S.ev x) (a.eval x) := by
  cases x with
  | tmp t => exact h.tmps t
  | const v => exact cv_rel v
  | global g => trivial
  | func f => exact ⟨[], rfl, rfl, fun i r hr => by simp at hr⟩

/-- What a binary operation yields. -/
def binV (P : Program) (op : BinOp) (xt : TypeId) : AV → AV → AV → Prop
  | .int x, .int y, v => (match op with
    | .add => v = .int (IntKind.i64.wrap (x + y)) | .sub => v = .int (IntKind.i64.wrap (x - y)) | .mul => v = .int (IntKind.i64.wrap (x * y))
    | .quo => y ≠ 0 ∧ v = .int (IntKind.i64.wrap (x.tdiv y)) | .rem => y ≠ 0 ∧ v = .int (x.tmod y)
    | .eql => v = .bool (x == y) | .neq => v = .bool (x != y) | .lss => v = .bool (decide (x < y)) | .leq => v = .bool (decide (x ≤ y))
    | .gtr => v = .bool (decide (x > y)) | .geq => v = .bool (decide (x ≥ y))
    | .shl => 0 ≤ y ∧ v = .int (IntKind.i64.wrap (x * 2 ^ (min y.toNat 64))) | .shr => 0 ≤ y ∧ v = .int (x.fdiv (2 ^ (min y.toNat 64)))
    | .and => v = .int (IntKind.i64.wrap (BitVec.ofInt 64 x &&& BitVec.ofInt 64 y).toNat)
    | _ => False)
  | .bool x, .bool y, v => P.underlying xt = some .bool ∧ (match op with | .eql => v = .bool (x == y) | .neq => v = .bool (!(x == y)) | _ => False)
  | .str x, .str y, v => (match op with | .eql => v = .bool (x.toList == y.toList) | .neq => v = .bool (!(x.toList == y.toList)) | .lss => v = .bool (Op.bytesLess x.toList y.toList) | _ => False)
  | .u8 x, .u8 y, v => (match op with
    | .add => v = .u8 (IntKind.u8.wrap (x + y)) | .sub => v = .u8 (IntKind.u8.wrap (x - y))
    | .eql => v = .bool (x == y) | .neq => v = .bool (x != y) | .lss => v = .bool (decide (x < y)) | .leq => v = .bool (decide (x ≤ y))
    | .gtr => v = .bool (decide (x > y)) | .geq => v = .bool (decide (x ≥ y)) | _ => False)
  | .u64 x, .u64 y, v => (match op with
    | .shr => 0 ≤ y ∧ v = .u64 (x.fdiv (2 ^ (min y.toNat 64)))
    | _ => False)
  | _, _, _ => False
section
variable {P : Program} {w : World} {ok : Nat → Prop} {N : Nat} {val : Nat → Value}
theorem eqGuard_plain (op : BinOp) (t : TypeId) (x y : Operand) {a b : Value} (ha : (∃ k n, a = .int k n) ∨ (∃ c, a = .bool c) ∨ ∃ c, a = .string c) : (eqGuard op t x y a b).run P w = .ok () w := by
  unfold eqGuard
  rcases ha with ⟨k, n, rfl⟩ | ⟨c, rfl⟩ | ⟨c, rfl⟩ <;> (cases op <;> rfl)
theorem bin_ok (op : BinOp) (xt : TypeId) (x y : Operand) {X Y V : AV} {a b : Value} (hx : VRel ok w N val X a) (hy : VRel ok w N val Y b) (h : binV P op xt X Y V) :
    ∃ v, ((do eqGuard op xt x y a b; binOp op xt a b : Sem Value)).run P w = .ok v w ∧ VRel ok w N val V v := by
  have key : ∀ v, (binOp op xt a b).run P w = .ok v w → ((∃ k n, a = .int k n) ∨ (∃ c, a = .bool c) ∨ ∃ c, a = .string c) → ((do eqGuard op xt x y a b; binOp op xt a b : Sem Value)).run P w = .ok v w := by
    intro v hv ha
    have := eqGuard_plain (P := P) (w := w) op xt x y (b := b) ha
    simp [this, hv]
  cases X <;> cases Y <;> try exact h.elim
  case int.int p q =>
    have ea : a = .int .i64 p := hx
    have eb : b = .int .i64 q := hy
    subst ea eb
    refine (fun ⟨v, h1, h2⟩ => ⟨v, key v h1 (.inl ⟨_, _, rfl⟩), h2⟩ : (∃ v, (binOp op xt _ _).run P w = .ok v w ∧ VRel ok w N val V v) → _) ?_
    cases op <;> simp only [binV] at h <;> (try exact h.elim)
    case quo => obtain ⟨h0, rfl⟩ := h; exact ⟨_, by simp [binOp, Op.intDiv, h0], rfl⟩
    case rem => obtain ⟨h0, rfl⟩ := h; exact ⟨_, by simp [binOp, Op.intDiv, h0], rfl⟩
    case shl => obtain ⟨h0, rfl⟩ := h; exact ⟨_, by simp [binOp, Op.shift, show ¬ q < 0 by omega, IntKind.bits], rfl⟩
    case shr => obtain ⟨h0, rfl⟩ := h; exact ⟨_, by simp [binOp, Op.shift, show ¬ q < 0 by omega, IntKind.bits], rfl⟩
    all_goals (subst h; exact ⟨_, rfl, rfl⟩)
  case bool.bool p q =>
    have ea : a = .bool p := hx
    have eb : b = .bool q := hy
    subst ea eb
    refine (fun ⟨v, h1, h2⟩ => ⟨v, key v h1 (.inr (.inl ⟨_, rfl⟩)), h2⟩ : (∃ v, (binOp op xt _ _).run P w = .ok v w ∧ VRel ok w N val V v) → _) ?_
    simp only [binV] at h
    obtain ⟨hu, h⟩ := h
    have hr := run_equal_bool w xt p q hu
    cases op <;> (try exact h.elim)
    all_goals (simp only at h; subst h; refine ⟨_, ?_, rfl⟩; simp [binOp, hr])
  case str.str p q =>
    have ea : a = .string p := hx
    have eb : b = .string q := hy
    subst ea eb
    refine (fun ⟨v, h1, h2⟩ => ⟨v, key v h1 (.inr (.inr ⟨_, rfl⟩)), h2⟩ : (∃ v, (binOp op xt _ _).run P w = .ok v w ∧ VRel ok w N val V v) → _) ?_
    cases op <;> simp only [binV] at h <;> (try exact h.elim)
    all_goals (subst h; exact ⟨_, rfl, rfl⟩)
  case u8.u8 p q =>
    have ea : a = .int .u8 p := hx
    have eb : b = .int .u8 q := hy
    subst ea eb
    refine (fun ⟨v, h1, h2⟩ => ⟨v, key v h1 (.inl ⟨_, _, rfl⟩), h2⟩ : (∃ v, (binOp op xt _ _).run P w = .ok v w ∧ VRel ok w N val V v) → _) ?_
    cases op <;> simp only [binV] at h <;> (try exact h.elim)
    all_goals (subst h; exact ⟨_, rfl, rfl⟩)
  case u64.u64 p q =>
    have ea : a = .int .u64 p := hx
    have eb : b = .int .u64 q := hy
    subst ea eb
    refine (fun ⟨v, h1, h2⟩ => ⟨v, key v h1 (.inl ⟨_, _, rfl⟩), h2⟩ : (∃ v, (binOp op xt _ _).run P w = .ok v w ∧ VRel ok w N val V v) → _) ?_
    cases op <;> simp only [binV] at h <;> (try exact h.elim)
    case shr => obtain ⟨h0, rfl⟩ := h; exact ⟨_, by simp [binOp, Op.shift, show ¬ q < 0 by omega, IntKind.bits], rfl⟩
end
end Go.Proofs.Ythogfineaeklpaa.Abs
/- Operations that make no memory: addresses, loads, parts, lengths, slices. -/
namespace Go.Proofs.Ythogfineaeklpaa.Abs
open Go.RowKit
set_option linter.unusedVariables false

theorem inj_rel {ok : Nat → Prop} {w : World} {N : Nat} {val : Nat → Value} {t : Ty} {x : t.den} {v : Value} (h : IRel ok w t x v) : VRel ok w N val (inj t x) v := by
  cases t with
  | pr a b => exact (by simpa [IRel, Ty.isPr] using h : ∃ cs : List Value, v = .agg cs.toArray ∧ Rep ok w (.pr a b) x cs)
  | int => simp [IRel, Ty.isPr] at h; unfold Rep at h; simp at h; exact h
  | bool => simp [IRel, Ty.isPr] at h; unfold Rep at h; simp at h; exact h
  | ar k t => exact (by simpa [IRel, Ty.isPr] using h : ∃ cs : List Value, v = .agg cs.toArray ∧ Rep ok w (.ar k t) x cs)
  | u64 => simp [IRel, Ty.isPr] at h; unfold Rep at h; simp at h; exact h
  | str => simp [IRel, Ty.isPr] at h; unfold Rep at h; simp at h; exact h
  | sl t => simp [IRel, Ty.isPr] at h; exact h
theorem irel_of {ok : Nat → Prop} {w : World} {t : Ty} {x : t.den} {cs : List Value} (h : Rep ok w t x cs) : IRel ok w t x (if t.isPr then .agg cs.toArray else cs.headD undef) := by
  unfold IRel
  split
  · exact ⟨cs, rfl, h⟩
  · rename_i ht
    have hl := h.length
    have h1 : t.n = 1 := by cases t <;> simp_all [Ty.isPr, Ty.n]
    rw [h1] at hl
    match cs, hl with
    | [c], _ => exact h
section
variable {P : Program} {w : World} {ok : Nat → Prop} {N : Nat} {val : Nat → Value}
/-- A variable whose cells read as a value, loaded. -/
theorem load_ok {b o : Nat} {t : TypeId} {tt : Ty} {x : tt.den} {cs : List Value} (hf : fits P t tt = true) (hr : Rep ok w tt x cs)
    (hc : ∀ j u, cs[j]? = some u → w.cell? ⟨b, o + j, none⟩ = some u) : ∃ v, (Instr.loadAt t (.pointer (some ⟨b, o, none⟩))).run P w = .ok v w ∧ IRel ok w tt x v := by
  have hs := run_sz (w := w) (fits_size hf)
  have ha := run_agg (w := w) (fits_agg hf)
  have hl := hr.length
  refine ⟨_, ?_, irel_of hr⟩
  unfold Instr.loadAt Instr.sureAddr loadVar
  by_cases hp : tt.isPr = true
  · have hld := run_loadCells_list (P := P) w ⟨b, o, none⟩ cs (fun j v hv => by rw [Addr.add_lit]; exact hc j v hv)
    rw [hl] at hld
    simp [ha, hp, hs, hld]
  · have h1 : tt.n = 1 := by cases tt <;> simp_all [Ty.isPr, Ty.n]
    rw [h1] at hl
    match cs, hl with
    | [c], _ =>
      have := hc 0 c rfl
      rw [Nat.add_zero] at this
      simp [ha, hp, this]
theorem part_ok {t : TypeId} {tt : Ty} {x : tt.den} {cs : List Value} {off : Nat} (hf : fits P t tt = true) (hr : Rep ok w tt x ((cs.drop off).take tt.n)) :
    ∃ v, (part t cs.toArray off).run P w = .ok v w ∧ IRel ok w tt x v := by
  have hs := run_sz (w := w) (fits_size hf)
  have ha := run_agg (w := w) (fits_agg hf)
  have hl := hr.length
  refine ⟨_, ?_, irel_of hr⟩
  unfold part
  by_cases hp : tt.isPr = true
  · simp [ha, hp, hs, List.take_drop]
  · have h1 : tt.n = 1 := by cases tt <;> simp_all [Ty.isPr, Ty.n]
    rw [h1] at hl ⊢
    simp [List.length_take, List.length_drop] at hl
    have hlt : off < cs.length := by omega
    have e : (cs.drop off).take 1 = [cs[off]] := by rw [List.drop_eq_getElem_cons hlt]; rfl
    simp [ha, hp, hlt, e]
theorem rep_cells {t : Ty} {l : List t.den} {b o : Nat} {xs : List Value} {i : Nat} {y : t.den} (hl : xs.length = l.length * t.n) (hc : ∀ j v, xs[j]? = some v → w.cell? ⟨b, o + j, none⟩ = some v)
    (he : ∀ (i : Nat) (y : t.den), l[i]? = some y → Rep ok w t y ((xs.drop (i * t.n)).take t.n)) (hy : l[i]? = some y) :
    ∃ cs, Rep ok w t y cs ∧ ∀ j u, cs[j]? = some u → w.cell? ⟨b, o + i * t.n + j, none⟩ = some u := by
  refine ⟨_, he i y hy, fun j u hu => ?_⟩
  rw [List.getElem?_take] at hu
  split at hu
  · rw [List.getElem?_drop] at hu
    rw [Nat.add_assoc]
    exact hc _ u hu
  · cases hu
theorem indexAddr_sl {t e : TypeId} {tt : Ty} {l : List tt.den} {v : Value} {k : Int} {y : tt.den} (ht : slElem P t = some e) (hs : szOf P e = some tt.n) (hv : Rep ok w (.sl tt) l [v])
    (h0 : 0 ≤ k) (hy : l[k.toNat]? = some y) : ∃ u, (Instr.indexAt t v (.int .i64 k)).run P w = .ok u w ∧ PRel ok w tt y u := by
  unfold Rep at hv
  obtain ⟨a, cap, he, h1, h2, h3⟩ := hv
  rcases h3 with rfl | ⟨b, o, xs, rfl, h4, h5, h6, h7, h8⟩
  · simp at hy
  · simp at he
    subst he
    obtain ⟨cs, hR, hC⟩ := rep_cells h6 h7 h8 hy
    have hlt : k.toNat < l.length := (List.getElem?_eq_some_iff.1 hy).1
    have hlt' : k < (l.length : Int) := by omega
    refine ⟨.pointer (some ⟨b, o + k.toNat * tt.n, none⟩), ?_, ⟨b, o + k.toNat * tt.n, cs, rfl, h4, h5, hR, hC⟩⟩
    simp [Instr.indexAt, asIntOf, run_underlying (slElem_und ht) w, h0, hlt', run_sz hs, Addr.add_lit]
theorem fieldPlace_ok {f : Field} {b o n : Nat} (hs : szOf P f.type = some n) (hn : n ≠ 0) : (fieldPlace ⟨b, o, none⟩ f).run P w = .ok ⟨b, o + f.offset, none⟩ w := by
  simp [fieldPlace, run_sz hs, hn, Addr.add_lit]
theorem fieldOf_spec {xt : TypeId} {f off : Nat} {ft : TypeId} (h : fieldOf P xt f = some (off, ft)) : ∃ fs fd, P.underlying xt = some (.struct fs) ∧ fs[f]? = some fd ∧ fd.offset = off ∧ fd.type = ft := by
  unfold fieldOf at h
  split at h
  · rename_i fs hfs
    cases hf : fs[f]? with
    | none => rw [hf] at h; cases h
    | some fd => rw [hf] at h; cases h; exact ⟨fs, fd, hfs, hf, rfl, rfl⟩
  · cases h
theorem fieldAddr_ok {xt ft : TypeId} {f off n b o : Nat} (h : fieldOf P xt f = some (off, ft)) (hs : szOf P ft = some n) (hn : n ≠ 0) :
    (Instr.fieldAt xt (.pointer (some ⟨b, o, none⟩)) f).run P w = .ok (.pointer (some ⟨b, o + off, none⟩)) w := by
  obtain ⟨fs, fd, h1, h2, rfl, rfl⟩ := fieldOf_spec h
  simp [Instr.fieldAt, run_underlying h1 w, h2, Instr.sureAddr, fieldPlace_ok hs hn]
theorem comp_prel {tt : Ty} {x : tt.den} {off sz : Nat} {c : TV} {b o : Nat} {cs : List Value} (hc : comp tt x off sz = some c) (hb : ok b) (hlt : b < w.heap.size) (hr : Rep ok w tt x cs)
    (hcell : ∀ j u, cs[j]? = some u → w.cell? ⟨b, o + j, none⟩ = some u) : PRel ok w c.1 c.2 (.pointer (some ⟨b, o + off, none⟩)) := by
  refine ⟨b, o + off, _, rfl, hb, hlt, (comp_rep hc hr).1, fun j u hu => ?_⟩
  rw [List.getElem?_take] at hu
  split at hu
  · rw [List.getElem?_drop] at hu
    rw [Nat.add_assoc]
    exact hcell _ u hu
  · cases hu
theorem field_ok {xt ft : TypeId} {f off : Nat} {tt : Ty} {x : tt.den} {cs : List Value} {c : TV} (h : fieldOf P xt f = some (off, ft)) (hc : comp tt x off c.1.n = some c) (hf : fits P ft c.1 = true) (hr : Rep ok w tt x cs) :
    ∃ v, (Instr.field xt (.agg cs.toArray) f).run P w = .ok v w ∧ IRel ok w c.1 c.2 v := by
  obtain ⟨fs, fd, h1, h2, rfl, rfl⟩ := fieldOf_spec h
  obtain ⟨v, h3, h4⟩ := part_ok (w := w) (off := fd.offset) (cs := cs) hf (comp_rep hc hr).1
  exact ⟨v, by simp [Instr.field, run_underlying h1 w, h2, asAgg, h3], h4⟩
theorem index_ok {xt e : TypeId} {len : Nat} {k : Int} {tt : Ty} {x : tt.den} {cs : List Value} {c : TV} (h : arElem P xt = some (len, e)) (h0 : 0 ≤ k) (hk : k < len)
    (hc : comp tt x (k.toNat * c.1.n) c.1.n = some c) (hf : fits P e c.1 = true) (hr : Rep ok w tt x cs) :
    ∃ v, (Instr.index xt (.agg cs.toArray) (.int .i64 k)).run P w = .ok v w ∧ IRel ok w c.1 c.2 v := by
  obtain ⟨v, h3, h4⟩ := part_ok (w := w) (off := k.toNat * c.1.n) (cs := cs) hf (comp_rep hc hr).1
  exact ⟨v, by simp [Instr.index, asIntOf, run_underlying (arElem_und h) w, h0, hk, run_sz (fits_size hf), h3], h4⟩
theorem indexStr_ok {xt : TypeId} {s : ByteArray} {k : Int} {c : UInt8} (hu : P.underlying xt = some .string) (h0 : 0 ≤ k) (hc : s[k.toNat]? = some c) :
    (Instr.index xt (.string s) (.int .i64 k)).run P w = .ok (.int .u8 c.toNat) w := by
  simp [Instr.index, asIntOf, run_underlying hu w, h0, hc]
theorem drop_mul {α : Type} (xs : List α) (a b k n : Nat) (h : b ≤ a) : ((xs.drop (b * n)).drop ((a - b) * n)).take k = (xs.drop (a * n)).take k := by
  rw [List.drop_drop]
  congr 2
  rw [← Nat.add_mul]; congr 1; omega
/-- A slice of an immutable slice. -/
theorem slice_ok {xt e : TypeId} {tt : Ty} {l : List tt.den} {v : Value} {lo hi : Option Int} (ht : slElem P xt = some e) (hs : szOf P e = some tt.n) (hv : Rep ok w (.sl tt) l [v])
    (h1 : 0 ≤ lo.getD 0) (h2 : lo.getD 0 ≤ hi.getD l.length) (h3 : hi.getD l.length ≤ l.length) :
    ∃ u, (Instr.sliceAt xt v (lo.map (.int .i64)) (hi.map (.int .i64)) none).run P w = .ok u w ∧ Rep ok w (.sl tt) ((l.take (hi.getD l.length).toNat).drop (lo.getD 0).toNat) [u] := by
  unfold Rep at hv
  obtain ⟨a, cap, he, k1, k2, k3⟩ := hv
  simp at he
  subst he
  obtain ⟨h, hh, hhe⟩ : ∃ h : Nat, hi.getD l.length = h ∧ h ≤ l.length := ⟨(hi.getD l.length).toNat, by omega, by omega⟩
  obtain ⟨g, hg, hgh⟩ : ∃ g : Nat, lo.getD 0 = g ∧ g ≤ h := ⟨(lo.getD 0).toNat, by omega, by omega⟩
  rw [hh, hg]
  simp only [Int.toNat_natCast]
  have hrun : (Instr.sliceAt xt (.slice a l.length cap) (lo.map (.int .i64)) (hi.map (.int .i64)) none).run P w =
      .ok (.slice (if cap = g then a else a.map (·.add (g * tt.n))) (h - g) (cap - g)) w := by
    have hb : (Instr.sliceBounds true l.length cap (lo.map (.int .i64)) (hi.map (.int .i64)) none).run P w = .ok (g, h, cap) w := by
      unfold Instr.sliceBounds Instr.sliceBound
      cases lo <;> cases hi <;> simp only [Option.getD_none, Option.getD_some, Option.map_none, Option.map_some] at hh hg ⊢
      · obtain rfl : l.length = h := by omega
        obtain rfl : g = 0 := by omega
        simp
      · subst hh
        obtain rfl : g = 0 := by omega
        simp [asIntOf, show h ≤ cap by omega]
      · subst hg
        obtain rfl : l.length = h := by omega
        simp [asIntOf, hgh]
      · subst hh; subst hg; simp [asIntOf, show h ≤ cap by omega, hgh]
    unfold Instr.sliceAt
    simp [run_underlying (slElem_und ht) w, Instr.slice, hb, run_sz hs]
  refine ⟨_, hrun, ?_⟩
  have hlen : ((l.take h).drop g).length = h - g := by simp; omega
  unfold Rep
  refine ⟨_, _, by rw [hlen], by rw [hlen]; omega, by rw [hlen]; omega, ?_⟩
  rcases k3 with rfl | ⟨b, o, xs, rfl, k4, k5, k6, k7, k8⟩
  · left; simp
  · by_cases hne : g = h
    · left; apply List.eq_nil_of_length_eq_zero; rw [hlen]; omega
    · right
      have hcap : cap ≠ g := by omega
      refine ⟨b, o + g * tt.n, (xs.drop (g * tt.n)).take ((h - g) * tt.n), by simp [hcap, Addr.add_lit], k4, k5, ?_, fun j u hu => ?_, fun i y hy => ?_⟩
      · rw [hlen, List.length_take, List.length_drop, k6, ← Nat.sub_mul, Nat.min_eq_left]
        exact Nat.mul_le_mul_right _ (by omega)
      · rw [List.getElem?_take] at hu
        split at hu
        · rw [List.getElem?_drop] at hu
          rw [Nat.add_assoc]
          exact k7 _ u hu
        · cases hu
      · rw [List.getElem?_drop, List.getElem?_take] at hy
        split at hy
        · rename_i hlt
          have := k8 _ y hy
          have hin : (i + 1) * tt.n ≤ (h - g) * tt.n := Nat.mul_le_mul_right _ (by omega)
          rw [List.drop_take, List.take_take, Nat.min_eq_left (by rw [Nat.add_mul] at hin; omega), List.drop_drop]
          rw [Nat.add_mul] at this
          exact this
        · cases hy
end
end Go.Proofs.Ythogfineaeklpaa.Abs
/- What an operation that makes no memory yields. -/
namespace Go.Proofs.Ythogfineaeklpaa.Abs
open Go.RowKit
set_option linter.unusedVariables false

/-- The list of scalar values that a value's cells are. -/
def cellsAV : (t : Ty) → t.den → List AV
  | .pr a b, x => cellsAV a x.1 ++ cellsAV b x.2
  | .int, x => [.int x]
  | .bool, x => [.bool x]
  | .str, x => [.str x]
  | .u64, x => [.u64 x]
  | .sl t, l => [.sl t l]
  | .ar k t, _ => List.replicate ((k + 1) * t.n) .junk
/-- A value out of scalar values. -/
def pack : (t : Ty) → List AV → Option (t.den × List AV)
  | .int, cs => (match cs with | .int x :: r => some (x, r) | _ => none)
  | .bool, cs => (match cs with | .bool x :: r => some (x, r) | _ => none)
  | .str, cs => (match cs with | .str x :: r => some (x, r) | _ => none)
  | .u64, cs => (match cs with | .u64 x :: r => some (x, r) | _ => none)
  | .sl t, cs => (match cs with
    | .sl u l :: r => if h : u = t then some (h ▸ l, r) else none
    | .nilsl :: r => some ([], r)
    | _ => none)
  | .pr a b, cs => match pack a cs with
    | some (x, r) => match pack b r with
      | some (y, r') => some ((x, y), r')
      | none => none
    | none => none
  | .ar _ _, _ => none
def unInj : (t : Ty) → AV → Option t.den
  | .int, .int x => some x
  | .bool, .bool x => some x
  | .str, .str x => some x
  | .u64, .u64 x => some x
  | .sl t, .sl u l => if h : u = t then some (h ▸ l) else none
  | .sl t, .nilsl => some []
  | .pr a b, .agg t x => if h : t = .pr a b then some (h ▸ x) else none
  | _, _ => none
section
variable {ok : Nat → Prop} {w : World} {N : Nat} {val : Nat → Value}
theorem pack_rep : ∀ {t : Ty} {avs r : List AV} {x : t.den} {cs : List Value}, pack t avs = some (x, r) → avs.length = cs.length → (∀ (i : Nat) (c : AV), avs[i]? = some c → ∃ u, cs[i]? = some u ∧ VRel ok w N val c u) →
    ∃ c1 c2, cs = c1 ++ c2 ∧ Rep ok w t x c1 ∧ r.length = c2.length ∧ (∀ (i : Nat) (c : AV), r[i]? = some c → ∃ u, c2[i]? = some u ∧ VRel ok w N val c u) := by
  intro t
  have tail : ∀ {a : AV} {r : List AV} {cs : List Value}, (a :: r).length = cs.length → (∀ (i : Nat) (c : AV), (a :: r)[i]? = some c → ∃ u, cs[i]? = some u ∧ VRel ok w N val c u) →
      ∃ u c2, cs = u :: c2 ∧ VRel ok w N val a u ∧ r.length = c2.length ∧ (∀ (i : Nat) (c : AV), r[i]? = some c → ∃ u, c2[i]? = some u ∧ VRel ok w N val c u) := by
    intro a r cs hl h
    match cs, hl with
    | u :: c2, hl =>
      obtain ⟨u', hu, hv⟩ := h 0 a rfl
      cases hu
      exact ⟨u, c2, rfl, hv, by simpa using hl, fun i c hc => by simpa using h (i + 1) c (by simpa using hc)⟩
  induction t with
  | int =>
    intro avs r x cs hp hl h
    unfold pack at hp
    split at hp <;> cases hp
    obtain ⟨u, c2, rfl, hv, h1, h2⟩ := tail hl h
    exact ⟨[u], c2, rfl, by unfold Rep; rw [show u = _ from hv], h1, h2⟩
  | bool =>
    intro avs r x cs hp hl h
    unfold pack at hp
    split at hp <;> cases hp
    obtain ⟨u, c2, rfl, hv, h1, h2⟩ := tail hl h
    exact ⟨[u], c2, rfl, by unfold Rep; rw [show u = _ from hv], h1, h2⟩
  | str =>
    intro avs r x cs hp hl h
    unfold pack at hp
    split at hp <;> cases hp
    obtain ⟨u, c2, rfl, hv, h1, h2⟩ := tail hl h
    exact ⟨[u], c2, rfl, by unfold Rep; rw [show u = _ from hv], h1, h2⟩
  | u64 =>
    intro avs r x cs hp hl h
    unfold pack at hp
    split at hp <;> cases hp
    obtain ⟨u, c2, rfl, hv, h1, h2⟩ := tail hl h
    exact ⟨[u], c2, rfl, by unfold Rep; rw [show u = _ from hv], h1, h2⟩
  | sl t ih =>
    intro avs r x cs hp hl h
    unfold pack at hp
    split at hp
    · rename_i u l r'
      split at hp
      · rename_i hut
        subst hut
        cases hp
        obtain ⟨v, c2, rfl, hv, h1, h2⟩ := tail hl h
        exact ⟨[v], c2, rfl, hv, h1, h2⟩
      · cases hp
    · cases hp
      obtain ⟨v, c2, rfl, hv, h1, h2⟩ := tail hl h
      refine ⟨[v], c2, rfl, ?_, h1, h2⟩
      have e : v = .slice none 0 0 := hv
      subst e
      unfold Rep
      exact ⟨none, 0, rfl, Nat.le_refl _, by simp [maxLen], .inl rfl⟩
    · cases hp
  | pr a b iha ihb =>
    intro avs r x cs hp hl h
    unfold pack at hp
    split at hp
    · rename_i x1 r1 h1
      split at hp
      · rename_i x2 r2 h2
        cases hp
        obtain ⟨c1, c2, rfl, k1, k2, k3⟩ := iha h1 hl h
        obtain ⟨d1, d2, rfl, m1, m2, m3⟩ := ihb h2 k2 k3
        exact ⟨c1 ++ d1, d2, by simp, by unfold Rep; exact ⟨c1, d1, rfl, k1, m1⟩, m2, m3⟩
      · cases hp
    · cases hp
  | ar k t ih =>
    intro avs r x cs hp hl h
    unfold pack at hp
    cases hp
theorem pack_all {t : Ty} {avs : List AV} {x : t.den} {cs : List Value} (hp : pack t avs = some (x, [])) (hl : avs.length = cs.length) (h : ∀ (i : Nat) (c : AV), avs[i]? = some c → ∃ u, cs[i]? = some u ∧ VRel ok w N val c u) :
    Rep ok w t x cs := by
  obtain ⟨c1, c2, rfl, h1, h2, _⟩ := pack_rep hp hl h
  have : c2 = [] := List.eq_nil_of_length_eq_zero h2.symm
  subst this
  simpa using h1
theorem rep_cellsAV {ok : Nat → Prop} {w : World} {N : Nat} {val : Nat → Value} : ∀ {t : Ty} {x : t.den} {cs : List Value}, Rep ok w t x cs → cs.length = (cellsAV t x).length ∧ ∀ (i : Nat) (c : AV), (cellsAV t x)[i]? = some c → ∃ u, cs[i]? = some u ∧ VRel ok w N val c u
  | .int, x, cs, h => by unfold Rep at h; subst h; exact ⟨rfl, fun i c hc => by cases i <;> simp [cellsAV] at hc; subst hc; exact ⟨_, rfl, rfl⟩⟩
  | .bool, x, cs, h => by unfold Rep at h; subst h; exact ⟨rfl, fun i c hc => by cases i <;> simp [cellsAV] at hc; subst hc; exact ⟨_, rfl, rfl⟩⟩
  | .str, x, cs, h => by unfold Rep at h; subst h; exact ⟨rfl, fun i c hc => by cases i <;> simp [cellsAV] at hc; subst hc; exact ⟨_, rfl, rfl⟩⟩
  | .u64, x, cs, h => by unfold Rep at h; subst h; exact ⟨rfl, fun i c hc => by cases i <;> simp [cellsAV] at hc; subst hc; exact ⟨_, rfl, rfl⟩⟩
  | .sl t, x, cs, h => by
    have hl := h.length
    match cs, hl with
    | [v], _ => exact ⟨rfl, fun i c hc => by cases i <;> simp [cellsAV] at hc; subst hc; exact ⟨_, rfl, h⟩⟩
  | .pr a b, x, cs, h => by
    unfold Rep at h
    obtain ⟨c1, c2, rfl, h1, h2⟩ := h
    obtain ⟨l1, k1⟩ := rep_cellsAV (N := N) (val := val) h1
    obtain ⟨l2, k2⟩ := rep_cellsAV (N := N) (val := val) h2
    refine ⟨by simp [cellsAV, l1, l2], fun i c hc => ?_⟩
    unfold cellsAV at hc
    by_cases hi : i < (cellsAV a x.1).length
    · rw [List.getElem?_append_left hi] at hc
      obtain ⟨u, hu, hv⟩ := k1 i c hc
      exact ⟨u, by rw [List.getElem?_append_left (by omega)]; exact hu, hv⟩
    · rw [List.getElem?_append_right (by omega)] at hc
      obtain ⟨u, hu, hv⟩ := k2 _ c hc
      exact ⟨u, by rw [List.getElem?_append_right (by omega), l1]; exact hu, hv⟩
  | .ar k t, x, cs, h => by
    have hl := h.length
    refine ⟨by simp only [cellsAV, List.length_replicate]; exact hl, fun i c hc => ?_⟩
    simp only [cellsAV, List.getElem?_replicate] at hc
    split at hc
    · rename_i hi
      cases hc
      have h2 : i < cs.length := by rw [hl]; exact hi
      exact ⟨cs[i], List.getElem?_eq_getElem h2, trivial⟩
    · cases hc
theorem unInj_rep {t : Ty} {x : AV} {y : t.den} {v : Value} (h : unInj t x = some y) (hv : VRel ok w N val x v) : IRel ok w t y v ∧ Rep ok w t y v.cells.toList := by
  unfold unInj at h
  split at h
  · cases h; have e : v = _ := hv; subst e; exact ⟨by simp [IRel, Ty.isPr, Rep], by simp [Rep, Value.cells]⟩
  · cases h; have e : v = _ := hv; subst e; exact ⟨by simp [IRel, Ty.isPr, Rep], by simp [Rep, Value.cells]⟩
  · cases h; have e : v = _ := hv; subst e; exact ⟨by simp [IRel, Ty.isPr, Rep], by simp [Rep, Value.cells]⟩
  · cases h; have e : v = _ := hv; subst e; exact ⟨by simp [IRel, Ty.isPr, Rep], by simp [Rep, Value.cells]⟩
  · split at h
    · rename_i hut
      subst hut
      cases h
      have hv' : Rep ok w _ _ [v] := hv
      refine ⟨by simp only [IRel, Ty.isPr]; exact hv', ?_⟩
      have hc : v.cells.toList = [v] := by
        unfold Rep at hv'
        obtain ⟨a, cap, he, _⟩ := hv'
        simp at he
        subst he; rfl
      rw [hc]; exact hv'
    · cases h
  · cases h
    have e : v = .slice none 0 0 := hv
    subst e
    have hR : ∀ t : Ty, Rep ok w (.sl t) [] [.slice none 0 0] := fun t => by unfold Rep; exact ⟨none, 0, rfl, Nat.le_refl _, by simp [maxLen], .inl rfl⟩
    exact ⟨by simp only [IRel, Ty.isPr]; exact hR _, hR _⟩
  · split at h
    · rename_i ht
      subst ht
      cases h
      obtain ⟨cs, rfl, hR⟩ := hv
      exact ⟨by simp only [IRel, Ty.isPr]; exact ⟨cs, rfl, hR⟩, by simpa [Value.cells] using hR⟩
    · cases h
  · cases h
end
end Go.Proofs.Ythogfineaeklpaa.Abs
/- What an operation that makes no memory yields: the rules, and that they hold. -/
namespace Go.Proofs.Ythogfineaeklpaa.Abs
open Go.RowKit
set_option linter.unusedVariables false

def tyOf (P : Program) : Nat → TypeId → Option Ty
  | 0, _ => none
  | d + 1, t => match P.underlying t with
    | some (.int .i64) => some .int
    | some .bool => some .bool
    | some .string => some .str
    | some (.int .u64) => some .u64
    | some (.slice e) => (tyOf P d e).map .sl
    | some (.array 2 e) => (tyOf P d e).map fun t => .pr t t
    | some (.array 3 e) => (tyOf P d e).map fun t => .pr t (.pr t t)
    | some (.struct fs) => (fs.toList.mapM fun f => tyOf P d f.type).bind fun ts =>
      match ts.reverse with
      | [] => none
      | t :: r => some (r.foldl (fun acc t => .pr t acc) t)
    | _ => none
def lenAV (P : Program) (S : AS) (t : TypeId) (x : AV) (v : AV) : Prop :=
  match x with
  | .sl _ l => (∃ e, slElem P t = some e) ∧ v = .int l.length
  | .nilsl => (∃ e, slElem P t = some e) ∧ v = .int 0
  | .str s => P.underlying t = some .string ∧ v = .int s.size
  | .ref n => (∃ e, slElem P t = some e) ∧ (match S.H[n]? with | some (some (.row _ _ l)) => v = .int l.length | _ => False)
  | _ => False
def optI (S : AS) : Option Operand → Option (Option Int)
  | none => some none
  | some x => match S.ev x with
    | .int k => some (some k)
    | _ => none
/-- The elements of an array, from its first on. -/
def arrL (tt : Ty) (d : tt.den) (len sz : Nat) (t : Ty) : Option (List t.den) :=
  (List.range len).mapM fun i => (comp tt d (i * sz) sz).bind fun c => if h : c.1 = t then some (h ▸ c.2) else none
def capAV : List AV → Option (List TV)
  | [] => some []
  | .iptr t x :: r => (capAV r).map (⟨t, x⟩ :: ·)
  | _ => none
def qbuiltin (P : Program) (S : AS) (b : Builtin) (ts : Array TypeId) (xs : List Operand) (v : AV) : Prop :=
  match b with
  | .len => (match xs with
    | [x] => (match ts.toList with | t :: _ => lenAV P S t (S.ev x) v | _ => False)
    | _ => False)
  | .min => (match xs with
    | [x, y] => (match S.ev x, S.ev y with | .int a, .int b => v = .int (if b < a then b else a) | _, _ => False)
    | _ => False)
  | .max => (match xs with
    | [x, y] => (match S.ev x, S.ev y with | .int a, .int b => v = .int (if a < b then b else a) | _, _ => False)
    | _ => False)
  | _ => False
def qval (P : Program) (S : AS) (o : Oper) (v : AV) : Prop :=
  match o.op with
  | .move x => v = S.ev x
  | .assign x => v = S.ev x
  | .pick c a b => (match S.ev c with | .bool t => v = (if t then S.ev a else S.ev b) | _ => False)
  | .nilCheck x => (match S.ev x with | .ptr n i => v = .ptr n i | .iptr t d => v = .iptr t d | .eptr n i k => v = .eptr n i k | _ => False)
  | .binOp op xt x y _ => binV P op xt (S.ev x) (S.ev y) v
  | .unOp op _ x => (match op, S.ev x with | .not, .bool b => v = .bool (!b) | .neg, .int k => v = .int (IntKind.i64.wrap (0 - k)) | _, _ => False)
  | .load t a => (match S.ev a with
    | .iptr tt x => fits P t tt = true ∧ v = inj tt x
    | .ptr n i => (match S.H[n]? with
      | some (some (.box _ cs)) => (match isAggB P t with
        | some false => cs[i]? = some v
        | _ => ∃ tt, tyOf P 8 t = some tt ∧ fits P t tt = true ∧ i + tt.n ≤ cs.length ∧ ∃ x, pack tt ((cs.drop i).take tt.n) = some (x, []) ∧ v = inj tt x)
      | _ => False)
    | .eptr n i k => (match S.H[n]? with
      | some (some (.row _ tt l)) => k = tt.n ∧ fits P t tt = true ∧ ∃ y, l[i]? = some y ∧ v = inj tt y
      | _ => False)
    | .ifn f cap => isAggB P t = some false ∧ v = .fn f cap
    | _ => False)
  | .indexAddr t x i => (match S.ev i with
    | .int k => 0 ≤ k ∧ (match S.ev x with
      | .sl tt l => (∃ e, slElem P t = some e ∧ szOf P e = some tt.n) ∧ ∃ y, l[k.toNat]? = some y ∧ v = .iptr tt y
      | .ref n => (match S.H[n]? with
        | some (some (.row _ tt l)) => (∃ e, slElem P t = some e ∧ szOf P e = some tt.n) ∧ k < l.length ∧ v = .eptr n k.toNat tt.n
        | _ => False)
      | .ptr n j => ∃ len e sz, arElem P t = some (len, e) ∧ k < (len : Nat) ∧ szOf P e = some sz ∧ v = .ptr n (j + k.toNat * sz)
      | .iptr tt d => ∃ len e sz, arElem P t = some (len, e) ∧ k < (len : Nat) ∧ szOf P e = some sz ∧ ∃ c : TV, comp tt d (k.toNat * sz) sz = some c ∧ v = .iptr c.1 c.2
      | _ => False)
    | _ => False)
  | .fieldAddr s x f => (match S.ev x with
    | .ptr n j => ∃ off ft sz, fieldOf P s f = some (off, ft) ∧ szOf P ft = some sz ∧ sz ≠ 0 ∧ v = .ptr n (j + off)
    | .iptr tt d => ∃ off ft sz, fieldOf P s f = some (off, ft) ∧ szOf P ft = some sz ∧ sz ≠ 0 ∧ ∃ c : TV, comp tt d off sz = some c ∧ v = .iptr c.1 c.2
    | _ => False)
  | .field xt x f => (match S.ev x with
    | .agg tt d => ∃ off ft sz, fieldOf P xt f = some (off, ft) ∧ szOf P ft = some sz ∧ ∃ c : TV, comp tt d off sz = some c ∧ fits P ft c.1 = true ∧ v = inj c.1 c.2
    | _ => False)
  | .index xt x i => (match S.ev x, S.ev i with
    | .agg tt d, .int k => 0 ≤ k ∧ ∃ len e sz, arElem P xt = some (len, e) ∧ k < (len : Nat) ∧ szOf P e = some sz ∧ ∃ c : TV, comp tt d (k.toNat * sz) sz = some c ∧ fits P e c.1 = true ∧ v = inj c.1 c.2
    | .str s, .int k => P.underlying xt = some .string ∧ 0 ≤ k ∧ ∃ c, s[k.toNat]? = some c ∧ v = .u8 c.toNat
    | _, _ => False)
  | .extract t i => (match S.ev t with | .tup l => ∃ r, l[i]? = some r ∧ v = r.av | _ => False)
  | .slice xt x lo hi none => (match S.ev x with
    | .sl tt l => (∃ e, slElem P xt = some e ∧ szOf P e = some tt.n) ∧ ∃ lo' hi', optI S lo = some lo' ∧ optI S hi = some hi' ∧ 0 ≤ lo'.getD 0 ∧ lo'.getD 0 ≤ hi'.getD l.length ∧ hi'.getD l.length ≤ l.length ∧
      v = .sl tt ((l.take (hi'.getD l.length).toNat).drop (lo'.getD 0).toNat)
    | .iptr tt d => lo = none ∧ hi = none ∧ ∃ len e sz, arElem P xt = some (len, e) ∧ szOf P e = some sz ∧ ∃ t l, arrL tt d len sz t = some l ∧ t.n = sz ∧ l.length = len ∧ len ≤ 16777216 ∧ v = .sl t l
    | .str s => P.underlying xt = some .string ∧ ∃ lo' hi', optI S lo = some lo' ∧ optI S hi = some hi' ∧ 0 ≤ lo'.getD 0 ∧ lo'.getD 0 ≤ hi'.getD s.size ∧ hi'.getD s.size ≤ s.size ∧ v = .str (s.extract (lo'.getD 0).toNat (hi'.getD s.size).toNat)
    | _ => False)
  | .makeFunc (.func f) first caps => first.size = 0 ∧ (match capAV (caps.toList.map S.ev) with
    | some c => v = .fn f c
    | none => (match caps.toList.map S.ev with
      | [.ifn f' cap] => v = .fn2 f f' cap
      | _ => False))
  | .convert src dst x => (∃ d, P.underlying src = some d) ∧ (match S.ev x with
    | .int k => (P.underlying dst = some (.int .i64) ∧ v = .int (IntKind.i64.wrap k)) ∨ (P.underlying dst = some (.int .u64) ∧ v = .u64 (IntKind.u64.wrap k))
    | .u8 k => P.underlying dst = some (.int .i64) ∧ v = .int (IntKind.i64.wrap k)
    | .u64 k => P.underlying dst = some (.int .i64) ∧ v = .int (IntKind.i64.wrap k)
    | _ => False)
  | .call c => (match c.callee with
    | .builtin b => qbuiltin P S b c.argTypes c.args.toList v
    | _ => False)
  | _ => False

section
variable {P : Program} {w0 w : World} {S : AS} {a : Act} {val : Nat → Value}
theorem cap_rel {ok : Nat → Prop} {N : Nat} : ∀ {avs : List AV} {vs : List Value} {c : List TV}, capAV avs = some c → avs.length = vs.length → (∀ (i : Nat) (x : AV), avs[i]? = some x → ∃ u, vs[i]? = some u ∧ VRel ok w N val x u) →
    vs.length = c.length ∧ ∀ (i : Nat) (d : TV), c[i]? = some d → ∃ u, vs[i]? = some u ∧ PRel ok w d.1 d.2 u
  | [], vs, c, h, hl, _ => by cases h; exact ⟨hl.symm, fun i d hd => by simp at hd⟩
  | x :: r, [], c, h, hl, _ => by simp at hl
  | x :: r, v :: vs, c, h, hl, hr => by
    unfold capAV at h
    split at h
    · rename_i heq; cases heq
    · rename_i t y r' heq
      cases heq
      cases hc : capAV r with
      | none => rw [hc] at h; cases h
      | some c' =>
        rw [hc] at h
        cases h
        obtain ⟨h1, h2⟩ := cap_rel hc (by simpa using hl) (fun i x hx => by simpa using hr (i + 1) x (by simpa using hx))
        refine ⟨by simp [h1], fun i d hd => ?_⟩
        cases i with
        | zero =>
          obtain ⟨u, hu, hv⟩ := hr 0 _ rfl
          simp at hd hu
          subst hd
          subst hu
          exact ⟨_, rfl, hv⟩
        | succ i => simpa using h2 i d (by simpa using hd)
    · cases h
theorem mapM_get {α β : Type} {f : α → Option β} : ∀ {xs : List α} {ys : List β}, xs.mapM f = some ys → ys.length = xs.length ∧ ∀ (i : Nat) (y : β), ys[i]? = some y → ∃ x, xs[i]? = some x ∧ f x = some y
  | [], ys, h => by simp at h; subst h; exact ⟨rfl, fun i y hy => by simp at hy⟩
  | x :: xs, ys, h => by
    simp only [List.mapM_cons, Option.bind_eq_bind, Option.bind_eq_some_iff] at h
    obtain ⟨y, hy, ys', hys, h⟩ := h
    cases h
    obtain ⟨h1, h2⟩ := mapM_get hys
    refine ⟨by simp [h1], fun i z hz => ?_⟩
    cases i with
    | zero => simp at hz; subst hz; exact ⟨x, rfl, hy⟩
    | succ i => simpa using h2 i z (by simpa using hz)
theorem arrL_get {tt : Ty} {d : tt.den} {len sz : Nat} {t : Ty} {l : List t.den} (h : arrL tt d len sz t = some l) {i : Nat} {y : t.den} (hy : l[i]? = some y) : comp tt d (i * sz) sz = some ⟨t, y⟩ := by
  obtain ⟨_, h2⟩ := mapM_get h
  obtain ⟨x, hx, hf⟩ := h2 i y hy
  have hxi : x = i := by
    rw [List.getElem?_eq_some_iff] at hx
    obtain ⟨hlt, hx⟩ := hx
    rw [← hx]; simp
  subst hxi
  simp only [Option.bind_eq_some_iff] at hf
  obtain ⟨c, hc, hf⟩ := hf
  split at hf
  · rename_i ht
    subst ht
    cases hf
    exact hc
  · cases hf
theorem len_ok (hR : Rl w0 S a w val) {t : TypeId} {ts : List TypeId} {x : Operand} {v : AV} {ty : TypeId} (h : lenAV P S t (S.ev x) v) :
    ∃ u, (Builtin.len_ (t :: ts).toArray ty #[a.eval x]).run P w = .ok u w ∧ VRel (okB S.H val) w S.H.length val v u := by
  have hx := hR.ev x
  unfold lenAV at h
  split at h
  · rename_i e
    obtain ⟨⟨e', he⟩, rfl⟩ := h
    rw [e] at hx
    have hx' : Rep _ w _ _ [a.eval x] := hx
    unfold Rep at hx'
    obtain ⟨ad, cap, h1, _⟩ := hx'
    simp at h1
    exact ⟨_, by simp [Builtin.len_, run_underlying (slElem_und he) w, h1]; rfl, rfl⟩
  · rename_i e
    obtain ⟨⟨e', he⟩, rfl⟩ := h
    rw [e] at hx
    have h1 : a.eval x = .slice none 0 0 := hx
    exact ⟨_, by simp [Builtin.len_, run_underlying (slElem_und he) w, h1]; rfl, rfl⟩
  · rename_i s e
    obtain ⟨hu, rfl⟩ := h
    rw [e] at hx
    have h1 : a.eval x = .string s := hx
    exact ⟨_, by simp [Builtin.len_, run_underlying hu w, h1]; rfl, rfl⟩
  · rename_i n e
    obtain ⟨⟨e', he⟩, h⟩ := h
    split at h
    · rename_i e2 t2 l2 hH
      subst h
      rw [e] at hx
      obtain ⟨xs, h1, h2⟩ := hR.heap n _ hH
      have h3 : ∃ ad cap, a.eval x = .slice ad l2.length cap := by
        rw [hx.2]
        rcases h1.2 with ⟨h4, h5⟩ | ⟨g, cap, cur, h4, _⟩
        · rw [h4, h5]; exact ⟨_, _, rfl⟩
        · rw [h4]; exact ⟨_, _, rfl⟩
      obtain ⟨ad, cap, h3⟩ := h3
      exact ⟨_, by simp [Builtin.len_, run_underlying (slElem_und he) w, h3]; rfl, rfl⟩
    · exact h.elim
  · exact h.elim
def Yl (P : Program) (w : World) (a : Act) (o : Oper) (R : Value → Prop) : Prop := ∃ u, (execOp a.eval o).run P w = .ok (.value u) w ∧ R u
theorem yl_of {s : Sem Value} {o : Oper} {R : Value → Prop} (he : execOp a.eval o = (do pure (.value (← s)))) (h : ∃ u, s.run P w = .ok u w ∧ R u) : Yl P w a o R := by
  obtain ⟨u, h1, h2⟩ := h
  exact ⟨u, by rw [he]; simp [h1], h2⟩

/-- **An operation that makes no memory yields what the rule says.** -/
theorem q_sound (hR : Rl w0 S a w val) {o : Oper} {v : AV} (h : qval P S o v) : Yl P w a o (VRel (okB S.H val) w S.H.length val v) := by
  obtain ⟨dst, op, type, pos, after, guard⟩ := o
  unfold qval at h
  simp only at h
  split at h
  case h_1 x => subst h; exact ⟨_, rfl, hR.ev x⟩
  case h_2 x => subst h; exact ⟨_, rfl, hR.ev x⟩
  case h_3 c x y =>
    have hc := hR.ev c
    split at h
    · rename_i t e
      rw [e] at hc
      have h1 : a.eval c = .bool t := hc
      subst h
      refine ⟨_, by simp [execOp, h1, asBool]; rfl, ?_⟩
      cases t
      · exact hR.ev y
      · exact hR.ev x
    · exact h.elim
  case h_4 x =>
    have hx := hR.ev x
    split at h
    · rename_i n i e
      rw [e] at hx
      obtain ⟨k0, g, h1, h2⟩ := hx
      subst h
      exact ⟨_, by simp [execOp, h2], k0, g, h1, rfl⟩
    · rename_i t d e
      rw [e] at hx
      obtain ⟨b, o, cs, h2, h3⟩ := hx
      subst h
      exact ⟨_, by simp [execOp, h2], b, o, cs, rfl, h3⟩
    · rename_i n i k e
      rw [e] at hx
      obtain ⟨k0, g, l, c, h1, h2⟩ := hx
      subst h
      exact ⟨_, by simp [execOp, h2], k0, g, l, c, h1, rfl⟩
    · exact h.elim
  case h_5 op xt x y yt =>
    obtain ⟨u, h1, h2⟩ := bin_ok (P := P) (w := w) op xt x y (hR.ev x) (hR.ev y) h
    exact yl_of rfl ⟨u, h1, h2⟩
  case h_6 op xt x =>
    have hx := hR.ev x
    split at h
    · rename_i b e
      rw [e] at hx
      have h1 : a.eval x = .bool b := hx
      subst h
      exact ⟨_, by simp [execOp, h1, Op.unary], rfl⟩
    · rename_i k e
      rw [e] at hx
      have h1 : a.eval x = .int .i64 k := hx
      subst h
      exact ⟨_, by simp [execOp, h1, Op.unary, Op.intArith], rfl⟩
    · exact h.elim
  case h_7 t x =>
    have hx := hR.ev x
    refine yl_of rfl ?_
    split at h
    · rename_i tt d e
      rw [e] at hx
      obtain ⟨hf, rfl⟩ := h
      obtain ⟨b, o, cs, h1, h2, h3, h4, h5⟩ := hx
      obtain ⟨u, h6, h7⟩ := load_ok hf h4 h5
      exact ⟨u, by rw [h1]; exact h6, inj_rel h7⟩
    · rename_i n i e
      rw [e] at hx
      obtain ⟨k0, g, h1, h2⟩ := hx
      split at h
      · rename_i e' cs hH
        obtain ⟨g', cur, h3, h4, h5, h6, h7⟩ := hR.heap n _ hH
        rw [h1] at h3
        cases h3
        split at h
        · rename_i hagg
          obtain ⟨u, hu, _, hv⟩ := h7 i v h
          refine ⟨u, ?_, hv⟩
          rw [h2]
          have hc : w.cell? ⟨g, i, none⟩ = some u := by simp [World.cell?, h5, hu]
          simp [Instr.loadAt, Instr.sureAddr, loadVar, run_agg hagg, hc]
        · obtain ⟨tt, _, hf, hle, x', hp, rfl⟩ := h
          have hR' : Rep (okB S.H val) w tt x' ((cur.toList.drop i).take tt.n) := by
            refine pack_all (N := S.H.length) (val := val) hp (by simp; omega) fun j c hc => ?_
            rw [List.getElem?_take] at hc ⊢
            split at hc
            · rename_i hj
              rw [List.getElem?_drop] at hc ⊢
              obtain ⟨u, hu, _, hv⟩ := h7 _ c hc
              exact ⟨u, by simpa [hj] using hu, hv⟩
            · cases hc
          obtain ⟨u, k6, k7⟩ := load_ok (b := g) (o := i) hf hR' (fun j u hu => by
            rw [List.getElem?_take] at hu
            split at hu
            · rw [List.getElem?_drop] at hu
              simp [World.cell?, h5]
              simpa using hu
            · cases hu)
          exact ⟨u, by rw [h2]; exact k6, inj_rel k7⟩
      · exact h.elim
    · rename_i n i k e
      rw [e] at hx
      obtain ⟨k0, g, len, cap, h1, h2⟩ := hx
      split at h
      · rename_i e' tt l hH
        obtain ⟨rfl, hf, y, hy, rfl⟩ := h
        obtain ⟨xs, h3, h4, h5⟩ := hR.heap n _ hH
        obtain ⟨u, k6, k7⟩ := load_ok (b := g) (o := i * tt.n) hf (h5 i y hy) (fun j u hu => by
          rw [List.getElem?_take] at hu
          split at hu
          · rw [List.getElem?_drop] at hu
            have := h3.cells (g := g) (by rw [h1]; rfl) _ u hu
            rw [Addr.add_lit] at this
            simpa using this
          · cases hu)
        exact ⟨u, by rw [h2]; exact k6, inj_rel k7⟩
      · exact h.elim
    · rename_i f cap e
      rw [e] at hx
      obtain ⟨hagg, rfl⟩ := h
      obtain ⟨b, u, h1, h2, h3, h4, h5⟩ := hx
      refine ⟨u, ?_, h5⟩
      rw [h1]
      simp [Instr.loadAt, Instr.sureAddr, loadVar, run_agg hagg, h4]
    · exact h.elim
  case h_8 t x i =>
    have hx := hR.ev x
    have hi := hR.ev i
    refine yl_of rfl ?_
    split at h
    · rename_i k ei
      rw [ei] at hi
      have hi' : a.eval i = .int .i64 k := hi
      rw [hi']
      obtain ⟨h0, h⟩ := h
      split at h
      · rename_i tt l e
        rw [e] at hx
        obtain ⟨⟨e', h1, h2⟩, y, hy, rfl⟩ := h
        exact indexAddr_sl h1 h2 hx h0 hy
      · rename_i n e
        rw [e] at hx
        split at h
        · rename_i e' tt l hH
          obtain ⟨⟨e', h1, h2⟩, hk, rfl⟩ := h
          obtain ⟨xs, h3, h4, h5⟩ := hR.heap n _ hH
          rcases h3.2 with ⟨h6, h7⟩ | ⟨g, cap, cur, h6, _⟩
          · have : k < 0 := by rw [h7] at hk; simpa using hk
            omega
          · refine ⟨_, ?_, hx.1, g, _, _, h6, rfl⟩
            rw [hx.2, h6]
            simp [Instr.indexAt, asIntOf, run_underlying (slElem_und h1) w, h0, hk, run_sz h2, Addr.add_lit]
        · exact h.elim
      · rename_i n j e
        rw [e] at hx
        obtain ⟨k0, g, h1, h2⟩ := hx
        obtain ⟨len, e', sz, h3, h4, h5, rfl⟩ := h
        refine ⟨_, ?_, k0, g, h1, rfl⟩
        rw [h2]
        simp [Instr.indexAt, asIntOf, run_underlying (arElem_und h3) w, Instr.sureAddr, h0, h4, run_sz h5, Addr.add_lit]
      · rename_i tt d e
        rw [e] at hx
        obtain ⟨b, o, cs, h2, h3, h4, h5, h6⟩ := hx
        obtain ⟨len, e', sz, k1, k2, k3, c, k4, rfl⟩ := h
        refine ⟨_, ?_, comp_prel k4 h3 h4 h5 h6⟩
        rw [h2]
        simp [Instr.indexAt, asIntOf, run_underlying (arElem_und k1) w, Instr.sureAddr, h0, k2, run_sz k3, Addr.add_lit]
      · exact h.elim
    · exact h.elim
  case h_9 s x f =>
    have hx := hR.ev x
    refine yl_of rfl ?_
    split at h
    · rename_i n j e
      rw [e] at hx
      obtain ⟨k0, g, h1, h2⟩ := hx
      obtain ⟨off, ft, sz, h3, h4, h5, rfl⟩ := h
      exact ⟨_, by rw [h2]; exact fieldAddr_ok h3 h4 h5, k0, g, h1, rfl⟩
    · rename_i tt d e
      rw [e] at hx
      obtain ⟨b, o, cs, h2, h3, h4, h5, h6⟩ := hx
      obtain ⟨off, ft, sz, k1, k2, k3, c, k4, rfl⟩ := h
      exact ⟨_, by rw [h2]; exact fieldAddr_ok k1 k2 k3, comp_prel k4 h3 h4 h5 h6⟩
    · exact h.elim
  case h_10 xt x f =>
    have hx := hR.ev x
    refine yl_of rfl ?_
    split at h
    · rename_i tt d e
      rw [e] at hx
      obtain ⟨cs, h1, h2⟩ := hx
      obtain ⟨off, ft, sz, k1, k2, c, k3, k4, rfl⟩ := h
      have hn : c.1.n = sz := (comp_rep k3 h2).2
      obtain ⟨u, h3, h4⟩ := field_ok (c := c) k1 (by rw [hn]; exact k3) k4 h2
      exact ⟨u, by rw [h1]; exact h3, inj_rel h4⟩
    · exact h.elim
  case h_11 xt x i =>
    have hx := hR.ev x
    have hi := hR.ev i
    refine yl_of rfl ?_
    split at h
    · rename_i tt d k e ei
      rw [e] at hx
      rw [ei] at hi
      have hi' : a.eval i = .int .i64 k := hi
      obtain ⟨cs, h1, h2⟩ := hx
      obtain ⟨h0, len, e', sz, k1, k2, k3, c, k4, k5, rfl⟩ := h
      have hn : c.1.n = sz := (comp_rep k4 h2).2
      obtain ⟨u, h3, h4⟩ := index_ok (c := c) k1 h0 k2 (by rw [hn]; exact k4) k5 h2
      exact ⟨u, by rw [h1, hi']; exact h3, inj_rel h4⟩
    · rename_i s k e ei
      rw [e] at hx
      rw [ei] at hi
      have hi' : a.eval i = .int .i64 k := hi
      have hx' : a.eval x = .string s := hx
      obtain ⟨hu, h0, c, hc, rfl⟩ := h
      exact ⟨_, by rw [hx', hi']; exact indexStr_ok hu h0 hc, rfl⟩
    · exact h.elim
  case h_12 t i =>
    have hx := hR.ev t
    refine yl_of rfl ?_
    split at h
    · rename_i l e
      rw [e] at hx
      obtain ⟨vs, h1, h2, h3⟩ := hx
      obtain ⟨r, hr, rfl⟩ := h
      obtain ⟨u, hu, hv⟩ := h3 i r hr
      refine ⟨u, by simp [Instr.extract, h1, hu], ?_⟩
      cases r with
      | v t x => exact inj_rel hv
      | r n => exact hv
    · exact h.elim
  case h_13 xt x lo hi =>
    have hx := hR.ev x
    refine yl_of rfl ?_
    have hopt : ∀ {y : Option Operand} {k : Option Int}, optI S y = some k → y.map a.eval = k.map (.int .i64) := by
      intro y k hy
      cases y with
      | none => simp [optI] at hy; subst hy; rfl
      | some z =>
        unfold optI at hy
        simp only at hy
        have hz := hR.ev z
        split at hy
        · rename_i q e
          cases hy
          rw [e] at hz
          exact congrArg some hz
        · cases hy
    split at h
    · rename_i tt l e
      rw [e] at hx
      obtain ⟨⟨e', h1, h2⟩, lo', hi', h3, h4, h5, h6, h7, rfl⟩ := h
      obtain ⟨u, k1, k2⟩ := slice_ok (lo := lo') (hi := hi') h1 h2 hx h5 h6 h7
      exact ⟨u, by rw [hopt h3, hopt h4]; exact k1, k2⟩
    · rename_i tt d e
      rw [e] at hx
      obtain ⟨b, o, cs, h1, h2, h3, h4, h5⟩ := hx
      obtain ⟨rfl, rfl, len, e', sz, k1, k2, t, l, k3, k4, k5, k6, rfl⟩ := h
      have ht := t.n_pos
      refine ⟨.slice (some ⟨b, o, none⟩) len len, ?_, ?_⟩
      · rw [h1]
        simp [Instr.sliceAt, run_underlying (arElem_und k1) w, Instr.sureAddr, Instr.sliceBounds, run_sz k2, Addr.add_lit]
      · show Rep _ w (.sl t) l _
        unfold Rep
        refine ⟨some ⟨b, o, none⟩, len, by rw [k5], by omega, by unfold maxLen; omega, ?_⟩
        by_cases hl : l = []
        · exact .inl hl
        · refine .inr ⟨b, o, cs.take (len * sz), rfl, h2, h3, ?_, fun j u hu => ?_, fun i y hy => ?_⟩
          · have hlast : ∃ y, l[len - 1]? = some y := by
              have : 0 < l.length := List.length_pos_iff.2 hl
              exact ⟨l[len - 1]'(by omega), List.getElem?_eq_getElem (by omega)⟩
            obtain ⟨y, hy⟩ := hlast
            have hr := (comp_rep (arrL_get k3 hy) h4).1.length
            rw [List.length_take, List.length_drop] at hr
            simp only [k4] at hr
            have hpos : 0 < l.length := List.length_pos_iff.2 hl
            have : (len - 1) * sz + sz = len * sz := by
              rw [← Nat.succ_mul]; congr 1; omega
            rw [List.length_take, k5, k4]
            omega
          · rw [List.getElem?_take] at hu
            split at hu
            · exact h5 j u hu
            · cases hu
          · have hlt : i < l.length := (List.getElem?_eq_some_iff.1 hy).1
            have hin : (i + 1) * sz ≤ len * sz := Nat.mul_le_mul_right _ (by omega)
            rw [Nat.add_mul] at hin
            have := (comp_rep (arrL_get k3 hy) h4).1
            rw [k4, List.drop_take, List.take_take, Nat.min_eq_left (by omega)]
            exact this
    · rename_i s e
      rw [e] at hx
      have hx' : a.eval x = .string s := hx
      obtain ⟨hu, lo', hi', h3, h4, h5, h6, h7, rfl⟩ := h
      obtain ⟨h, hh, hhe⟩ : ∃ h : Nat, hi'.getD s.size = h ∧ h ≤ s.size := ⟨(hi'.getD s.size).toNat, by omega, by omega⟩
      obtain ⟨g, hg, hgh⟩ : ∃ g : Nat, lo'.getD 0 = g ∧ g ≤ h := ⟨(lo'.getD 0).toNat, by omega, by omega⟩
      rw [hh, hg]
      simp only [Int.toNat_natCast]
      refine ⟨.string (s.extract g h), ?_, rfl⟩
      have hb : (Instr.sliceBounds false s.size s.size (lo'.map (.int .i64)) (hi'.map (.int .i64)) none).run P w = .ok (g, h, s.size) w := by
        unfold Instr.sliceBounds Instr.sliceBound
        cases lo' <;> cases hi' <;> simp only [Option.getD_none, Option.getD_some, Option.map_none, Option.map_some] at hh hg ⊢
        · obtain rfl : s.size = h := by omega
          obtain rfl : g = 0 := by omega
          simp
        · subst hh
          obtain rfl : g = 0 := by omega
          simp [asIntOf, hhe]
        · subst hg
          obtain rfl : s.size = h := by omega
          simp [asIntOf, hgh]
        · subst hh; subst hg; simp [asIntOf, hhe, hgh]
      rw [hx', hopt h3, hopt h4]
      simp [Instr.sliceAt, run_underlying hu w, Instr.slice, hb]
    · exact h.elim
  case h_14 f first caps =>
    obtain ⟨h1, h⟩ := h
    have h1' : first = #[] := Array.eq_empty_of_size_eq_zero h1
    subst h1'
    have hc : Array.map a.eval caps = (List.map a.eval caps.toList).toArray := by apply Array.ext'; simp
    have hrel : ∀ (i : Nat) (x : AV), (caps.toList.map S.ev)[i]? = some x → ∃ u, (caps.toList.map a.eval)[i]? = some u ∧ VRel (okB S.H val) w S.H.length val x u := fun i x hx => by
      rw [List.getElem?_map] at hx ⊢
      cases hc : caps.toList[i]? with
      | none => rw [hc] at hx; cases hx
      | some z => rw [hc] at hx; cases hx; exact ⟨_, rfl, hR.ev z⟩
    split at h
    · rename_i c h2
      subst h
      obtain ⟨k1, k2⟩ := cap_rel (ok := okB S.H val) (w := w) (N := S.H.length) (val := val) (vs := caps.toList.map a.eval) h2 (by simp) hrel
      exact yl_of rfl ⟨_, rfl, caps.toList.map a.eval, by rw [hc]; simp, k1, k2⟩
    · split at h
      · rename_i f' cap e2
        subst h
        obtain ⟨u, hu, hv⟩ := hrel 0 (.ifn f' cap) (by rw [e2]; rfl)
        have hl : (caps.toList.map a.eval).length = 1 := by have := congrArg List.length e2; simpa using this
        obtain ⟨u', hu'⟩ := List.length_eq_one_iff.1 hl
        have e3 : u' = u := by rw [hu'] at hu; simpa using hu
        subst e3
        refine yl_of rfl ⟨_, rfl, u', ?_, hv⟩
        rw [hc, hu']
        simp
      · exact h.elim
  case h_15 src dst x =>
    have hx := hR.ev x
    obtain ⟨⟨d, hd⟩, h⟩ := h
    refine yl_of rfl ?_
    split at h
    · rename_i k e
      rw [e] at hx
      have h1 : a.eval x = .int .i64 k := hx
      rcases h with ⟨hu, rfl⟩ | ⟨hu, rfl⟩
      · exact ⟨_, by rw [h1]; simp [convert, run_underlying hd w, run_underlying hu w, Conv.intToInt], rfl⟩
      · exact ⟨_, by rw [h1]; simp [convert, run_underlying hd w, run_underlying hu w, Conv.intToInt], rfl⟩
    · rename_i k e
      rw [e] at hx
      have h1 : a.eval x = .int .u8 k := hx
      obtain ⟨hu, rfl⟩ := h
      exact ⟨_, by rw [h1]; simp [convert, run_underlying hd w, run_underlying hu w, Conv.intToInt], rfl⟩
    · rename_i k e
      rw [e] at hx
      have h1 : a.eval x = .int .u64 k := hx
      obtain ⟨hu, rfl⟩ := h
      exact ⟨_, by rw [h1]; simp [convert, run_underlying hd w, run_underlying hu w, Conv.intToInt], rfl⟩
    · exact h.elim
  case h_16 c =>
    obtain ⟨callee, args, ts⟩ := c
    simp only at h
    split at h
    · rename_i b
      have hargs : ∀ xs : List Operand, args.toList = xs → args.map a.eval = (xs.map a.eval).toArray := fun xs hx => by
        apply Array.ext'
        simp [← hx]
      unfold qbuiltin at h
      split at h
      · split at h
        · rename_i x hxs
          split at h
          · rename_i t r ht
            obtain ⟨u, h1, h2⟩ := len_ok hR (ty := type) (ts := r) h
            refine ⟨u, ?_, h2⟩
            have e1 : ts = (t :: r).toArray := by apply Array.ext'; simpa using ht
            simp [execOp, resolve, invoke, builtin, hargs _ hxs, e1] at h1 ⊢
            simp [h1]
          · exact h.elim
        · exact h.elim
      · split at h
        · rename_i x y hxs
          split at h
          · rename_i p q ex ey
            have hx := hR.ev x
            have hy := hR.ev y
            rw [ex] at hx
            rw [ey] at hy
            have hx' : a.eval x = .int .i64 p := hx
            have hy' : a.eval y = .int .i64 q := hy
            subst h
            exact ⟨_, by simp [execOp, resolve, invoke, builtin, hargs _ hxs, hx', hy', Builtin.min_, Builtin.min2], rfl⟩
          · exact h.elim
        · exact h.elim
      · split at h
        · rename_i x y hxs
          split at h
          · rename_i p q ex ey
            have hx := hR.ev x
            have hy := hR.ev y
            rw [ex] at hx
            rw [ey] at hy
            have hx' : a.eval x = .int .i64 p := hx
            have hy' : a.eval y = .int .i64 q := hy
            subst h
            exact ⟨_, by simp [execOp, resolve, invoke, builtin, hargs _ hxs, hx', hy', Builtin.max_, Builtin.max2], rfl⟩
          · exact h.elim
        · exact h.elim
      · exact h.elim
    · exact h.elim
  case h_17 => exact h.elim
end
end Go.Proofs.Ythogfineaeklpaa.Abs
/- Calls: what a function is known to answer, and what a caller knows behind a call. -/
namespace Go.Proofs.Ythogfineaeklpaa.Abs
open Go.RowKit
set_option linter.unusedVariables false

inductive Res where
  | im (t : Ty) (x : t.den)
  | own (e : TypeId) (t : Ty) (l : List t.den)
def ResRel (ok : Nat → Prop) (base : Nat) (w : World) : Res → Value → Prop
  | .im t x, v => IRel ok w t x v
  | .own e t l, v => (∀ g, ownB v = some g → ok g) ∧ ∃ xs, w.ownsRow base e t.n v l.length xs ∧ RepL (fun b => ok b ∧ ownB v ≠ some b) w t l xs
def Res.isOwn : Res → Bool
  | .own _ _ _ => true
  | _ => false
/-- What stands behind a call: one result, or several. -/
def SpecPost (res : List Res) (w : World) (e : Ending) (w' : World) : Prop :=
  ∃ v, e = .returned v ∧ Below w.heap.size w w' ∧
    (match res with
     | [r] => ResRel (fun b => w.heap.size ≤ b) w.heap.size w' r v
     | rs => ∃ vs : List Value, v = .tuple vs.toArray ∧ vs.length = rs.length ∧ ∀ (i : Nat) (r : Res), rs[i]? = some r → ∃ u, vs[i]? = some u ∧
        ResRel (fun b => w.heap.size ≤ b ∧ ∀ (j : Nat) (r' : Res) (u' : Value), j ≠ i → rs[j]? = some r' → r'.isOwn = true → vs[j]? = some u' → ownB u' ≠ some b) w.heap.size w' r u)
def enters (P : Program) (f : FuncId) : Bool :=
  match P.funcs[f]? with
  | some fn => fn.body.isSome && fn.name != "runtime.NumGoroutine"
  | none => false
def ArgRel (w : World) (x : AV) (v : Value) : Prop := VRel (fun _ => True) w 0 (fun _ => undef) x v
/-- For all arguments that read so, in whatever world: the call returns, with these results; nothing that was there has changed. -/
def Spec (P : Program) (f : FuncId) (args : List AV) (res : List Res) : Prop :=
  enters P f = true ∧ ∀ (w : World) (vs : List Value), vs.length = args.length → (∀ (i : Nat) (x : AV), args[i]? = some x → ∃ v, vs[i]? = some v ∧ ArgRel w x v) → Calls P f vs.toArray w (SpecPost res w)
/-- A caller's value as an argument. -/
def argOf (S : AS) : AV → AV
  | .ref n => (match S.H[n]? with
    | some (some (.row _ t l)) => .sl t l
    | _ => .junk)
  | .tup _ => .junk
  | .ptr _ _ => .junk
  | .eptr _ _ _ => .junk
  | x => x
def Res.av : Res → AV
  | .im t x => inj t x
  | .own _ t l => .sl t l
def Res.ra : Res → RA
  | .im t x => .v t x
  | .own _ t l => .v (.sl t) l
def resAV : List Res → AV
  | [r] => r.av
  | rs => .tup (rs.map Res.ra)
def argsOk (S : AS) : List AV → List AV → Prop
  | [], [] => True
  | x :: xs, y :: ys => (y = argOf S x ∨ (x = .nilsl ∧ ∃ t, y = .sl t [])) ∧ argsOk S xs ys
  | _, _ => False
def qcall (P : Program) (S : AS) (o : Oper) (v : AV) : Prop :=
  match o.op with
  | .call c => (match c.callee with
    | .value f => (match S.ev f with
      | .fn f cap => ∃ args res, argsOk S (c.args.toList.map S.ev) args ∧ Spec P f (args ++ cap.map fun c => .iptr c.1 c.2) res ∧ v = resAV res
      | .fn2 g f cap => ∃ args res, argsOk S (c.args.toList.map S.ev) args ∧ Spec P g (args ++ [.ifn f cap]) res ∧ v = resAV res
      | _ => False)
    | _ => False)
  | _ => False
section
variable {P : Program} {w0 w : World} {S : AS} {a : Act} {val : Nat → Value}
theorem keep_arg {ok : Nat → Prop} {N : Nat} : Keep ok (fun _ => True) w w 0 0 (fun _ => undef) (fun _ => undef) := ⟨Nat.le_refl _, fun _ _ _ => ⟨trivial, rfl⟩, Nat.le_refl _, fun _ _ => rfl⟩
theorem PRel.weak {ok ok' : Nat → Prop} (h : ∀ b, ok b → ok' b) {t : Ty} {x : t.den} {v : Value} (hp : PRel ok w t x v) : PRel ok' w t x v :=
  PRel.keep (N := 0) (N' := 0) (val := fun _ => undef) (val' := fun _ => undef) ⟨Nat.le_refl _, fun b hb _ => ⟨h b hb, rfl⟩, Nat.le_refl _, fun _ _ => rfl⟩ hp
theorem IFRel.weak {ok ok' : Nat → Prop} (h : ∀ b, ok b → ok' b) {f : FuncId} {cap : List TV} {v : Value} (hp : IFRel ok w f cap v) : IFRel ok' w f cap v :=
  IFRel.keep (N := 0) (N' := 0) (val := fun _ => undef) (val' := fun _ => undef) ⟨Nat.le_refl _, fun b hb _ => ⟨h b hb, rfl⟩, Nat.le_refl _, fun _ _ => rfl⟩ hp
theorem Rep.weak {ok ok' : Nat → Prop} (h : ∀ b, ok b → ok' b) {t : Ty} {x : t.den} {cs : List Value} (hp : Rep ok w t x cs) : Rep ok' w t x cs :=
  Rep.mono (Nat.le_refl _) (fun b hb _ => ⟨h b hb, rfl⟩) hp
theorem IRel.weak {ok ok' : Nat → Prop} (h : ∀ b, ok b → ok' b) {t : Ty} {x : t.den} {v : Value} (hp : IRel ok w t x v) : IRel ok' w t x v :=
  IRel.keep (N := 0) (N' := 0) (val := fun _ => undef) (val' := fun _ => undef) ⟨Nat.le_refl _, fun b hb _ => ⟨h b hb, rfl⟩, Nat.le_refl _, fun _ _ => rfl⟩ hp
/-- A row of the call's own reads as a slice. -/
theorem row_rep {ok : Nat → Prop} {base : Nat} {e : TypeId} {t : Ty} {l : List t.den} {v : Value} {xs : List Value} (ho : w.ownsRow base e t.n v l.length xs) (hr : RepL ok w t l xs)
    (hg : ∀ g, ownB v = some g → ok g) : Rep ok w (.sl t) l [v] := by
  unfold Rep
  rcases ho.2 with ⟨rfl, hl⟩ | ⟨g, cap, cur, rfl, hb, hgg, hn, hc, hs, ht⟩
  · have : l = [] := List.eq_nil_of_length_eq_zero hl
    subst this
    exact ⟨none, 0, rfl, Nat.le_refl _, by simp [maxLen], .inl rfl⟩
  · refine ⟨_, cap, rfl, hn, Nat.le_trans hn hc, ?_⟩
    by_cases hl : l = []
    · exact .inl hl
    · refine .inr ⟨g, 0, xs, rfl, hg g rfl, (Array.getElem?_eq_some_iff.1 hgg).1, hr.1, fun j u hu => ?_, hr.2⟩
      have := ho.cells (g := g) rfl j u hu
      rw [Addr.add_lit] at this
      exact this
theorem arg_ok (hR : Rl w0 S a w val) {x y : AV} {v : Value} (hx : VRel (okB S.H val) w S.H.length val x v) (hy : y = argOf S x ∨ (x = .nilsl ∧ ∃ t, y = .sl t [])) : ArgRel w y v := by
  rcases hy with rfl | ⟨rfl, t, rfl⟩
  · unfold ArgRel
    cases x with
    | ref n =>
      unfold argOf
      simp only
      split
      · rename_i e t l hH
        obtain ⟨xs, h1, h2⟩ := hR.heap n _ hH
        rw [hx.2]
        exact row_rep h1 ⟨h2.1, fun i y hy => (h2.2 i y hy).weak fun _ _ => trivial⟩ fun _ _ => trivial
      · trivial
    | tup l => trivial
    | ptr n i => trivial
    | eptr n i k => trivial
    | int x => exact hx
    | bool x => exact hx
    | str x => exact hx
    | u8 x => exact hx
    | u64 x => exact hx
    | sl t l => exact Rep.weak (fun _ _ => trivial) hx
    | agg t d => obtain ⟨cs, h1, h2⟩ := hx; exact ⟨cs, h1, h2.weak fun _ _ => trivial⟩
    | iptr t d => exact PRel.weak (fun _ _ => trivial) hx
    | fn f cap =>
      obtain ⟨vs, h1, h2, h3⟩ := hx
      exact ⟨vs, h1, h2, fun i r hr => let ⟨u, hu, hp⟩ := h3 i r hr; ⟨u, hu, PRel.weak (fun _ _ => trivial) hp⟩⟩
    | ifn f cap => exact IFRel.weak (fun _ _ => trivial) hx
    | fn2 g f cap => obtain ⟨p, h1, h2⟩ := hx; exact ⟨p, h1, IFRel.weak (fun _ _ => trivial) h2⟩
    | nilsl => exact hx
    | undef => exact hx
    | junk => trivial
  · have e : v = .slice none 0 0 := hx
    subst e
    show Rep _ w (.sl t) [] _
    unfold Rep
    exact ⟨none, 0, rfl, Nat.le_refl _, by simp [maxLen], .inl rfl⟩
theorem args_ok (hR : Rl w0 S a w val) : ∀ {xs ys : List AV} {vs : List Value}, argsOk S xs ys → xs.length = vs.length → (∀ (i : Nat) (x : AV), xs[i]? = some x → ∃ v, vs[i]? = some v ∧ VRel (okB S.H val) w S.H.length val x v) →
    vs.length = ys.length ∧ ∀ (i : Nat) (y : AV), ys[i]? = some y → ∃ v, vs[i]? = some v ∧ ArgRel w y v
  | [], [], vs, _, hl, _ => ⟨hl.symm, fun i y hy => by simp at hy⟩
  | [], _ :: _, _, h, _, _ => h.elim
  | _ :: _, [], _, h, _, _ => h.elim
  | x :: xs, y :: ys, [], h, hl, _ => by simp at hl
  | x :: xs, y :: ys, v :: vs, h, hl, hr => by
    obtain ⟨h1, h2⟩ := args_ok hR h.2 (vs := vs) (by simpa using hl) (fun i x hx => by simpa using hr (i + 1) x (by simpa using hx))
    refine ⟨by simp [h1], fun i z hz => ?_⟩
    cases i with
    | zero =>
      simp at hz
      subst hz
      obtain ⟨u, hu, hv⟩ := hr 0 x rfl
      simp at hu
      subst hu
      exact ⟨_, rfl, arg_ok hR hv h.1⟩
    | succ i => simpa using h2 i z (by simpa using hz)
theorem fresh_ok (hR : Rl w0 S a w val) {b : Nat} (hb : w.heap.size ≤ b) : okB S.H val b := by
  intro n B hB hg
  have hH := hR.heap n B hB
  cases B with
  | row e t l =>
    obtain ⟨xs, h1, _⟩ := hH
    rcases h1.2 with ⟨h2, _⟩ | ⟨g', cap, cur, hv, _, hgg, _⟩
    · rw [h2] at hg; cases hg
    · rw [hv] at hg; cases hg
      have := (Array.getElem?_eq_some_iff.1 hgg).1
      simp only at hb; omega
  | box e cs =>
    obtain ⟨g', cur, hv, _, hgg, _⟩ := hH
    rw [hv] at hg; cases hg
    have := (Array.getElem?_eq_some_iff.1 hgg).1
    simp only at hb; omega
theorem res_irel {ok ok' : Nat → Prop} {base : Nat} {r : Res} {v : Value} (hk : ∀ b, ok b → ok' b) (h : ResRel ok base w r v) : RRel ok' w 0 (fun _ => undef) r.ra v := by
  cases r with
  | im t x => exact IRel.weak hk h
  | own e t l =>
    obtain ⟨h0, xs, h1, h2⟩ := h
    show IRel ok' w (.sl t) l v
    unfold IRel
    simp only [Ty.isPr]
    exact row_rep h1 ⟨h2.1, fun i y hy => (h2.2 i y hy).weak fun b hb => hk b hb.1⟩ fun g hg => hk g (h0 g hg)
theorem rrel_any {ok : Nat → Prop} {r : Res} {v : Value} {N : Nat} {val : Nat → Value} (h : RRel ok w 0 (fun _ => undef) r.ra v) : RRel ok w N val r.ra v := by cases r <;> exact h
theorem run_callFunc {f : FuncId} {args : Array Value} (h : enters P f = true) : (callFunc f args).run P w = .ok (.enter f args) w := by
  unfold enters at h
  cases hfn : P.funcs[f]? with
  | none => rw [hfn] at h; cases h
  | some fn =>
    rw [hfn] at h
    simp only [Bool.and_eq_true] at h
    obtain ⟨hb, hname⟩ := h
    have hb' : fn.body.isNone = false := by cases hfb : fn.body <;> simp_all
    have hn' : (fn.name == "runtime.NumGoroutine") = false := by simpa using hname
    unfold callFunc
    rw [Sem.run_bind, run_program]
    simp only [Result.andThen_ok, hfn, hn', hb', Bool.false_eq_true, if_false]
    rfl
/-- **A call, its results taken as values.** -/
theorem call_sound (hR : Rl w0 S a w val) {o : Oper} {v : AV} (h : qcall P S o v) {next : Act → World → Prop} {Q : Exit → Act → World → Prop}
    (hn : ∀ a' w', Rl w0 (S.put o.dst v) a' w' val → next a' w') : o.wp P a w next Q := by
  obtain ⟨dst, op, type, pos, after, guard⟩ := o
  unfold qcall at h
  simp only at h
  split at h
  · rename_i c
    obtain ⟨callee, args, ts⟩ := c
    simp only at h
    split at h
    · rename_i f
      have hf := hR.ev f
      have core : ∀ (f' : FuncId) (caps : List AV) (cvs : List Value), a.eval f = .func (.func f') #[] cvs.toArray → cvs.length = caps.length → (∀ (i : Nat) (c : AV), caps[i]? = some c → ∃ u, cvs[i]? = some u ∧ ArgRel w c u) →
          (∃ args' res, argsOk S (args.toList.map S.ev) args' ∧ Spec P f' (args' ++ caps) res ∧ v = resAV res) → Oper.wp P { dst := dst, op := .call { callee := .value f, args := args, argTypes := ts }, type := type, pos := pos, after := after, guard := guard } a w next Q := by
        intro f' caps cvs hf1 hf2 hf3 h
        obtain ⟨args', res, h1, ⟨hent, hsp⟩, rfl⟩ := h
        obtain ⟨k1, k2⟩ := args_ok hR (vs := args.toList.map a.eval) h1 (by simp) (fun i x hx => by
          rw [List.getElem?_map] at hx ⊢
          cases hc : args.toList[i]? with
          | none => rw [hc] at hx; cases hx
          | some z => rw [hc] at hx; cases hx; exact ⟨_, rfl, hR.ev z⟩)
        have hcalls := hsp w (args.toList.map a.eval ++ cvs) (by simp [hf2]; simpa using k1) (fun i x hx => by
          by_cases hi : i < args'.length
          · rw [List.getElem?_append_left hi] at hx
            obtain ⟨u, hu, hv⟩ := k2 i x hx
            exact ⟨u, by rw [List.getElem?_append_left (by rw [k1]; exact hi)]; exact hu, hv⟩
          · rw [List.getElem?_append_right (by omega)] at hx
            obtain ⟨u, hu, hp⟩ := hf3 _ x hx
            exact ⟨u, by rw [List.getElem?_append_right (by rw [k1]; omega), k1]; exact hu, hp⟩)
        have hrun : (execOp a.eval { dst := dst, op := .call { callee := .value f, args := args, argTypes := ts }, type := type, pos := pos, after := after, guard := guard }).run P w = .ok (.enter f' (args.toList.map a.eval ++ cvs).toArray) w := by
          have e1 : args.map a.eval ++ cvs.toArray = (args.toList.map a.eval ++ cvs).toArray := by apply Array.ext'; simp
          have hc := run_callFunc (w := w) (args := (args.toList.map a.eval ++ cvs).toArray) hent
          rw [← e1] at hc
          simp [execOp, resolve, hf1, Deferred.ofValue, invoke, hc, ← e1]
        unfold Oper.wp
        rw [hrun, Oper.upon_enter]
        refine hcalls.mono ?_
        rintro e w' ⟨u, rfl, hb, hres⟩
        refine hn _ _ ((hR.grow hb).put dst ?_)
        have hk : ∀ b, w.heap.size ≤ b → okB S.H val b := fun b hb => fresh_ok hR hb
        have one : ∀ (r : Res) (u : Value) (ok' : Nat → Prop), (∀ b, ok' b → w.heap.size ≤ b) → ResRel ok' w.heap.size w' r u → RRel (okB S.H val) w' S.H.length val r.ra u := fun r u ok' h1 h2 =>
          rrel_any (res_irel (fun b hb => hk b (h1 b hb)) h2)
        have multi : ∀ rs : List Res, (∃ vs : List Value, u = .tuple vs.toArray ∧ vs.length = rs.length ∧ ∀ (i : Nat) (r : Res), rs[i]? = some r → ∃ u, vs[i]? = some u ∧
            ResRel (fun b => w.heap.size ≤ b ∧ ∀ (j : Nat) (r' : Res) (u' : Value), j ≠ i → rs[j]? = some r' → r'.isOwn = true → vs[j]? = some u' → ownB u' ≠ some b) w.heap.size w' r u) →
            VRel (okB S.H val) w' S.H.length val (.tup (rs.map Res.ra)) u := by
          rintro rs ⟨vs, m1, m2, m3⟩
          refine ⟨vs, m1, by simp [m2], fun i r hr => ?_⟩
          rw [List.getElem?_map] at hr
          cases hc : rs[i]? with
          | none => rw [hc] at hr; cases hr
          | some z =>
            rw [hc] at hr
            cases hr
            obtain ⟨u, hu, hv⟩ := m3 i z hc
            exact ⟨u, hu, one _ _ _ (fun b hb => hb.1) hv⟩
        match res, hres with
        | [], hres => exact multi [] hres
        | [r], hres =>
          have := one r u _ (fun b hb => hb) hres
          cases r with
          | im t x => exact inj_rel this
          | own e t l =>
            have h2 : IRel (okB S.H val) w' (.sl t) l u := this
            simp only [IRel, Ty.isPr] at h2
            exact h2
        | r :: r' :: rs, hres => exact multi (r :: r' :: rs) hres
      split at h
      · rename_i f' cap ef
        rw [ef] at hf
        obtain ⟨cvs, hf1, hf2, hf3⟩ := hf
        exact core f' (cap.map fun c => .iptr c.1 c.2) cvs hf1 (by simp [hf2]) (fun i c hc => by
          rw [List.getElem?_map] at hc
          cases hz : cap[i]? with
          | none => rw [hz] at hc; cases hc
          | some z => rw [hz] at hc; cases hc; obtain ⟨u, hu, hp⟩ := hf3 i z hz; exact ⟨u, hu, PRel.weak (fun _ _ => trivial) hp⟩) h
      · rename_i g f' cap ef
        rw [ef] at hf
        obtain ⟨p, hf1, hf2⟩ := hf
        exact core g [.ifn f' cap] [p] hf1 rfl (fun i c hc => by
          match i, hc with
          | 0, hc => cases hc; exact ⟨p, rfl, IFRel.weak (fun _ _ => trivial) hf2⟩
          | i + 1, hc => simp at hc) h
      · exact h.elim
    · exact h.elim
  · exact h.elim
end
end Go.Proofs.Ythogfineaeklpaa.Abs
/- Operations that make memory or write it. -/
namespace Go.Proofs.Ythogfineaeklpaa.Abs
open Go.RowKit
set_option linter.unusedVariables false

def upd (val : Nat → Value) (n : Nat) (v : Value) : Nat → Value := fun m => if m = n then v else val m
theorem upd_self (val : Nat → Value) (n : Nat) (v : Value) : upd val n v n = v := by simp [upd]
theorem upd_lt (val : Nat → Value) {n m : Nat} (v : Value) (h : m < n) : upd val n v m = val m := by simp [upd, show m ≠ n by omega]
section
variable {P : Program} {w0 w w1 : World} {S : AS} {a : Act} {val : Nat → Value}
theorem own_lt (hR : Rl w0 S a w val) {n : Nat} {B : Blk} (hB : S.H[n]? = some (some B)) {g : Nat} (hg : ownB (val n) = some g) : g < w.heap.size ∧ w0.heap.size ≤ g := by
  have hH := hR.heap n B hB
  cases B with
  | row e t l =>
    obtain ⟨xs, h1, _⟩ := hH
    rcases h1.2 with ⟨h2, _⟩ | ⟨g', cap, cur, hv, hb, hgg, _⟩
    · rw [h2] at hg; cases hg
    · rw [hv] at hg; cases hg
      exact ⟨(Array.getElem?_eq_some_iff.1 hgg).1, hb⟩
  | box e cs =>
    obtain ⟨g', cur, hv, hb, hgg, _⟩ := hH
    rw [hv] at hg; cases hg
    exact ⟨(Array.getElem?_eq_some_iff.1 hgg).1, hb⟩
theorem get_app {H : Hp} {B : Blk} {m : Nat} {C : Blk} (h : (H ++ [some B])[m]? = some (some C)) : (m < H.length ∧ H[m]? = some (some C)) ∨ (m = H.length ∧ C = B) := by
  by_cases hm : m < H.length
  · rw [List.getElem?_append_left hm] at h; exact .inl ⟨hm, h⟩
  · rw [List.getElem?_append_right (by omega)] at h
    have h0 : m - H.length = 0 := by
      rcases Nat.eq_zero_or_pos (m - H.length) with h' | h'
      · exact h'
      · rw [List.getElem?_eq_none (by simp; omega)] at h; cases h
    rw [h0] at h
    simp at h
    exact .inr ⟨by omega, h.symm⟩
/-- A new block, in a world that has grown. -/
theorem Rl.fresh (hR : Rl w0 S a w val) (hb : Below w.heap.size w w1) {v : Value} {B : Blk} (hv : ∀ g, ownB v = some g → w.heap.size ≤ g)
    (hB : ∀ val', (∀ m, m < S.H.length → val' m = val m) → val' S.H.length = v → BRel w0.heap.size (okB (S.H ++ [some B]) val') w1 (S.H.length + 1) val' S.H.length B) :
    Rl w0 { S with H := S.H ++ [some B] } a w1 (upd val S.H.length v) := by
  have hR1 := hR.grow hb
  have K : Keep (okB S.H val) (okB (S.H ++ [some B]) (upd val S.H.length v)) w w1 S.H.length (S.H ++ [some B]).length val (upd val S.H.length v) := by
    refine ⟨hb.size, fun b hk hlt => ⟨fun m C hC hg => ?_, hb.block b hlt⟩, by simp, fun m hm => upd_lt val v hm⟩
    rcases get_app hC with ⟨hm, hC⟩ | ⟨rfl, rfl⟩
    · rw [upd_lt val v hm] at hg; exact hk m C hC hg
    · rw [upd_self] at hg; have := hv b hg; omega
  refine ⟨hR1.below, hR.len, hR.defers, fun t => (hR.tmps t).keep K, fun m C hC => ?_, fun m k C D g hC hD hg hg' => ?_⟩
  · rcases get_app hC with ⟨hm, hC⟩ | ⟨rfl, rfl⟩
    · exact (hR.heap m C hC).keep K hm fun g hg => hb.block g (own_lt hR hC hg).1
    · have := hB (upd val S.H.length v) (fun m hm => upd_lt val v hm) (upd_self _ _ _)
      simpa using this
  · rcases get_app hC with ⟨hm, hC1⟩ | ⟨rfl, hE⟩ <;> rcases get_app hD with ⟨hk, hD1⟩ | ⟨rfl, hE'⟩
    · rw [upd_lt val v hm] at hg; rw [upd_lt val v hk] at hg'
      exact hR.apart m k C D g hC1 hD1 hg hg'
    · rw [upd_lt val v hm] at hg; rw [upd_self] at hg'
      have := (own_lt hR hC1 hg).1; have := hv g hg'; omega
    · rw [upd_self] at hg; rw [upd_lt val v hk] at hg'
      have := (own_lt hR hD1 hg').1; have := hv g hg; omega
    · rfl
theorem Rl.freshRow (hR : Rl w0 S a w val) (hb : Below w.heap.size w w1) {v : Value} {e : TypeId} {t : Ty} {l : List t.den} {xs : List Value}
    (ho : w1.ownsRow w.heap.size e t.n v l.length xs) (hr : RepL (fun b => okB S.H val b ∧ ownB v ≠ some b) w1 t l xs) :
    Rl w0 { S with H := S.H ++ [some (.row e t l)] } a w1 (upd val S.H.length v) := by
  have hv : ∀ g, ownB v = some g → w.heap.size ≤ g := by
    intro g hg
    rcases ho.2 with ⟨h2, _⟩ | ⟨g', cap, cur, hv, hb, _⟩
    · rw [h2] at hg; cases hg
    · rw [hv] at hg; cases hg; exact hb
  refine hR.fresh hb hv fun val' h1 h2 => ⟨xs, ?_, hr.1, fun i y hy => (hr.2 i y hy).weak fun b hbk m C hC hg => ?_⟩
  · rw [h2]
    refine ⟨ho.1, ?_⟩
    rcases ho.2 with h | ⟨g, cap, cur, k1, k2, k3⟩
    · exact .inl h
    · exact .inr ⟨g, cap, cur, k1, Nat.le_trans hR.below.size k2, k3⟩
  · rcases get_app hC with ⟨hm, hC⟩ | ⟨rfl, rfl⟩
    · rw [h1 m hm] at hg; exact hbk.1 m C hC hg
    · rw [h2] at hg; exact hbk.2 hg
theorem Rl.freshBox (hR : Rl w0 S a w val) {e : TypeId} {cs : List AV} {cur : Array Value} (hl : cur.size = cs.length)
    (hc : ∀ (i : Nat) (c : AV), cs[i]? = some c → ∃ u, cur[i]? = some u ∧ u.oneCell' = true ∧ VRel (okB S.H val) w S.H.length val c u) :
    Rl w0 { S with H := S.H ++ [some (.box e cs)] } a (w.alloc (.cells cur e)) (upd val S.H.length (.pointer (some ⟨w.heap.size, 0, none⟩))) := by
  have hb : Below w.heap.size w (w.alloc (.cells cur e)) := (Below.refl _ _).alloc (Nat.le_refl _) _
  refine hR.fresh hb (fun g hg => by cases hg; exact Nat.le_refl _) fun val' h1 h2 => ⟨w.heap.size, cur, h2, hR.below.size, heap_alloc_new _ _, hl, fun i c hi => ?_⟩
  obtain ⟨u, hu, ho, hv⟩ := hc i c hi
  refine ⟨u, hu, ho, hv.keep ⟨hb.size, fun b hk hlt => ⟨fun m C hC hg => ?_, hb.block b hlt⟩, by omega, h1⟩⟩
  rcases get_app hC with ⟨hm, hC⟩ | ⟨rfl, rfl⟩
  · rw [h1 m hm] at hg; exact hk m C hC hg
  · rw [h2] at hg; simp [ownB] at hg; omega
theorem get_set {H : Hp} {n m : Nat} {x : Option Blk} {C : Blk} (h : (H.set n x)[m]? = some (some C)) : (m = n ∧ x = some C) ∨ (m ≠ n ∧ H[m]? = some (some C)) := by
  by_cases hm : n = m
  · subst hm
    rw [List.getElem?_set] at h
    simp at h
    obtain ⟨_, h⟩ := h
    exact .inl ⟨rfl, h⟩
  · rw [List.getElem?_set_ne hm] at h
    exact .inr ⟨fun e => hm e.symm, h⟩
/-- A block of the call's own is written: all others are as they were. -/
theorem Rl.write (hR : Rl w0 S a w val) {n : Nat} {B B' : Blk} (hB : S.H[n]? = some (some B)) {g : Nat} (hg : ownB (val n) = some g)
    (hsz : w1.heap.size = w.heap.size) (ho : w1.os = w.os) (htp : w1.tape = w.tape) (hout : w1.output = w.output) (hh : ∀ k, k ≠ g → w1.heap[k]? = w.heap[k]?)
    (hB' : Keep (okB S.H val) (okB S.H val) w w1 S.H.length S.H.length val val → BRel w0.heap.size (okB S.H val) w1 S.H.length val n B') :
    Rl w0 { S with H := S.H.set n (some B') } a w1 val := by
  have hkk : okB (S.H.set n (some B')) val = okB S.H val := by
    funext b
    apply propext
    constructor
    · intro h m C hC hgm
      by_cases hm : m = n
      · subst hm
        exact h m B' (by rw [List.getElem?_set_self (lt_of_some hB)]) hgm
      · exact h m C (by rw [List.getElem?_set_ne (Ne.symm hm)]; exact hC) hgm
    · intro h m C hC hgm
      rcases get_set hC with ⟨rfl, _⟩ | ⟨_, hC⟩
      · exact h m B hB hgm
      · exact h m C hC hgm
  have K : Keep (okB S.H val) (okB S.H val) w w1 S.H.length S.H.length val val :=
    ⟨by omega, fun b hk hlt => ⟨hk, hh b fun e => hk n B hB (by rw [hg, e])⟩, Nat.le_refl _, fun _ _ => rfl⟩
  refine ⟨?_, hR.len, hR.defers, fun t => ?_, fun m C hC => ?_, fun m k C D q hC hD => ?_⟩
  · refine hR.below.trans ⟨ho, htp, hout, by omega, fun k hk => hh k fun e => ?_⟩
    have := (own_lt hR hB hg).2
    omega
  · rw [hkk]
    simp only [List.length_set]
    exact (hR.tmps t).keep K
  · rw [hkk]
    simp only [List.length_set]
    rcases get_set hC with ⟨rfl, h⟩ | ⟨hne, hC⟩
    · cases h; exact hB' K
    · refine (hR.heap m C hC).keep K (lt_of_some hC) fun q hq => hh q fun e => ?_
      subst e
      exact hne (hR.apart m n C B q hC hB hq hg)
  · have f : ∀ {x : Nat} {X : Blk}, (S.H.set n (some B'))[x]? = some (some X) → ∃ Y, S.H[x]? = some (some Y) := fun {x X} hX => by
      rcases get_set hX with ⟨rfl, _⟩ | ⟨_, hX⟩
      · exact ⟨B, hB⟩
      · exact ⟨X, hX⟩
    obtain ⟨C', hC'⟩ := f hC
    obtain ⟨D', hD'⟩ := f hD
    exact hR.apart m k C' D' q hC' hD'
/-- A row of the call's own has got more elements: it has a new name, the old one is gone. -/
theorem Rl.renew (hR : Rl w0 S a w val) {n : Nat} {B : Blk} (hB : S.H[n]? = some (some B)) (hg : w.grownBy w1 (ownB (val n))) {v : Value} (hv : ownB v = ownB (val n) ∨ ∀ g, ownB v = some g → w.heap.size ≤ g)
    {e : TypeId} {t : Ty} {l : List t.den} {xs : List Value} (ho : w1.ownsRow w0.heap.size e t.n v l.length xs) (hr : RepL (okB S.H val) w t l xs) :
    Rl w0 { S with H := S.H.set n none ++ [some (.row e t l)] } a w1 (upd val S.H.length v) := by
  have gd : ∀ {m : Nat} {C : Blk}, (S.H.set n none ++ [some (.row e t l)])[m]? = some (some C) → (m < S.H.length ∧ m ≠ n ∧ S.H[m]? = some (some C)) ∨ (m = S.H.length ∧ C = .row e t l) := by
    intro m C h
    rcases get_app h with ⟨h1, h2⟩ | ⟨h1, h2⟩
    · rcases get_set h2 with ⟨_, h3⟩ | ⟨h3, h4⟩
      · cases h3
      · exact .inl ⟨by simpa using h1, h3, h4⟩
    · exact .inr ⟨by simpa using h1, h2⟩
  have K : Keep (okB S.H val) (okB (S.H.set n none ++ [some (.row e t l)]) (upd val S.H.length v)) w w1 S.H.length (S.H.set n none ++ [some (Blk.row e t l)]).length val (upd val S.H.length v) := by
    refine ⟨hg.size, fun b hk hlt => ⟨fun m C hC hgm => ?_, hg.block b hlt fun e => hk n B hB e.symm⟩, by simp, fun m hm => upd_lt val v hm⟩
    rcases gd hC with ⟨hm, hne, hC⟩ | ⟨rfl, _⟩
    · rw [upd_lt val v hm] at hgm; exact hk m C hC hgm
    · rw [upd_self] at hgm
      rcases hv with hv | hv
      · rw [hv] at hgm; exact hk n B hB hgm
      · have := hv b hgm; omega
  have away : ∀ {m : Nat} {C : Blk} {g : Nat}, m ≠ n → S.H[m]? = some (some C) → ownB (val m) = some g → some g ≠ ownB (val n) := fun hne hC hgm e => hne (hR.apart _ n _ B _ hC hB hgm e.symm)
  refine ⟨?_, hR.len, hR.defers, fun t => (hR.tmps t).keep K, fun m C hC => ?_, fun m k C D q hC hD hq hq' => ?_⟩
  · refine hR.below.trans ⟨hg.os, hg.tape, hg.output, hg.size, fun k hk => hg.block k (Nat.lt_of_lt_of_le hk hR.below.size) fun e => ?_⟩
    have := (own_lt hR hB e.symm).2
    omega
  · rcases gd hC with ⟨hm, hne, hC⟩ | ⟨rfl, rfl⟩
    · exact (hR.heap m C hC).keep K hm fun g hgm => hg.block g (own_lt hR hC hgm).1 (away hne hC hgm)
    · exact ⟨xs, by rw [upd_self]; exact ho, hr.1, fun i y hy => (hr.2 i y hy).mono K.size K.ok⟩
  · rcases gd hC with ⟨hm, hne, hC⟩ | ⟨rfl, hE⟩ <;> rcases gd hD with ⟨hk, hne', hD⟩ | ⟨rfl, hE'⟩
    · rw [upd_lt val v hm] at hq; rw [upd_lt val v hk] at hq'
      exact hR.apart m k C D q hC hD hq hq'
    · rw [upd_lt val v hm] at hq; rw [upd_self] at hq'
      rcases hv with hv | hv
      · rw [hv] at hq'; exact (away hne hC hq hq'.symm).elim
      · have := (own_lt hR hC hq).1; have := hv q hq'; omega
    · rw [upd_self] at hq; rw [upd_lt val v hk] at hq'
      rcases hv with hv | hv
      · rw [hv] at hq; exact (away hne' hD hq' hq.symm).elim
      · have := (own_lt hR hD hq').1; have := hv q hq; omega
    · rfl
end
end Go.Proofs.Ythogfineaeklpaa.Abs
/- Operations that make memory or write it: the rules, and that they hold. -/
namespace Go.Proofs.Ythogfineaeklpaa.Abs
open Go.RowKit
set_option linter.unusedVariables false

def zcellsOf : Ty → List Value
  | .int => [.int .i64 0]
  | .bool => [.bool false]
  | .str => [.string ByteArray.empty]
  | .u64 => [.int .u64 0]
  | .sl _ => [.slice none 0 0]
  | .pr a b => zcellsOf a ++ zcellsOf b
  | .ar k t => (List.replicate (k + 1) (zcellsOf t)).flatten
theorem flat_len {α : Type} (c : List α) : ∀ m : Nat, (List.replicate m c).flatten.length = m * c.length
  | 0 => by simp
  | m + 1 => by rw [List.replicate_succ, List.flatten_cons, List.length_append, flat_len c m, Nat.succ_mul, Nat.add_comm]
theorem flat_get {α : Type} (c : List α) : ∀ (m i : Nat), i < m → (((List.replicate m c).flatten).drop (i * c.length)).take c.length = c
  | 0, i, h => by omega
  | m + 1, 0, h => by rw [List.replicate_succ, List.flatten_cons, Nat.zero_mul, List.drop_zero, List.take_left']; rfl
  | m + 1, i + 1, h => by
    rw [List.replicate_succ, List.flatten_cons, Nat.succ_mul, Nat.add_comm (i * c.length), List.drop_append, List.drop_eq_nil_of_le (by omega), List.nil_append, show c.length + i * c.length - c.length = i * c.length by omega]
    exact flat_get c m i (by omega)
theorem zrep {ok : Nat → Prop} {w : World} : ∀ t : Ty, Rep ok w t (zden t) (zcellsOf t)
  | .int => by unfold Rep; rfl
  | .bool => by unfold Rep; rfl
  | .str => by unfold Rep; rfl
  | .u64 => by unfold Rep; rfl
  | .sl t => by unfold Rep; exact ⟨none, 0, rfl, Nat.le_refl _, by simp [zden, maxLen], .inl rfl⟩
  | .pr a b => by unfold Rep; exact ⟨_, _, rfl, zrep a, zrep b⟩
  | .ar k t => by
    have hz := zrep (ok := ok) (w := w) t
    have hl := hz.length
    unfold Rep
    refine ⟨by simp [zden], by rw [zcellsOf, flat_len, hl], fun i y hy => ?_⟩
    simp only [zden, List.getElem?_replicate] at hy
    split at hy
    · rename_i hi
      cases hy
      rw [zcellsOf, ← hl, flat_get _ _ _ hi]
      exact hz
    · cases hy
/-- Elements of this type are laid so. -/
def elemOk (P : Program) (e : TypeId) (t : Ty) : Prop :=
  (P.info? e).map (fun i => (i.size, i.zero.map (·.cells.toList))) = some (t.n, some (zcellsOf t)) ∧ (P.info? e).map (fun i => decide (i.bytes ≤ 1024)) = some true
theorem elemOk_info {P : Program} {e : TypeId} {t : Ty} (h : elemOk P e t) : ∃ i z, P.info? e = some i ∧ i.zero = some z ∧ i.size = t.n ∧ i.bytes ≤ 1024 ∧ z.cells.toList = zcellsOf t := by
  obtain ⟨h1, h2⟩ := h
  cases hi : P.info? e with
  | none => rw [hi] at h1; cases h1
  | some i =>
    rw [hi] at h1 h2
    simp at h1 h2
    obtain ⟨h3, z, h4, h5⟩ := h1
    exact ⟨i, z, rfl, h4, h3, h2, h5⟩
def cellsOfAV (H : Hp) : AV → Option (List AV)
  | .agg t x => some (cellsAV t x)
  | .int x => some [.int x]
  | .bool x => some [.bool x]
  | .str x => some [.str x]
  | .u8 x => some [.u8 x]
  | .sl t l => some [.sl t l]
  | .ref n => (match H[n]? with
    | some (some (.row _ _ _)) => some [.ref n]
    | _ => none)
  | .ptr n i => some [.ptr n i]
  | .eptr n i k => some [.eptr n i k]
  | .iptr t x => some [.iptr t x]
  | .fn f c => some [.fn f c]
  | .nilsl => some [.nilsl]
  | _ => none
def cvz : Value → Option AV
  | .int .i64 x => some (.int x)
  | .int .u8 x => some (.u8 x)
  | .bool b => some (.bool b)
  | .string s => some (.str s)
  | .slice none 0 0 => some .nilsl
  | _ => none
def zAVs (P : Program) (e : TypeId) : Option (List AV) := ((P.info? e).bind (·.zero)).bind fun z => z.cells.toList.mapM cvz
def splice (cs : List AV) (i : Nat) : List AV → List AV
  | [x] => cs.set i x
  | xs => cs.take i ++ xs ++ cs.drop (i + xs.length)
def AS.new (S : AS) (d : Option Tmp) (x : AV) (B : Blk) : AS := { S with H := S.H ++ [some B] }.put d x
def srcOf (S : AS) (tt : Ty) : AV → Option (List tt.den)
  | .sl t l => if h : t = tt then some (h ▸ l) else none
  | .nilsl => some []
  | .ref n => (match S.H[n]? with
    | some (some (.row _ t l)) => if h : t = tt then some (h ▸ l) else none
    | _ => none)
  | _ => none
section
variable {P : Program} {w0 w w1 : World} {S : AS} {a : Act} {val : Nat → Value}
theorem cell_vrel {ok : Nat → Prop} {N : Nat} {t : Ty} {x : t.den} {cs : List Value} (h : Rep ok w t x cs) : ∀ (i : Nat) (c : AV), (cellsAV t x)[i]? = some c → ∃ u, cs[i]? = some u ∧ u.oneCell' = true ∧ VRel ok w N val c u := fun i c hc => by
  obtain ⟨u, hu, hv⟩ := (rep_cellsAV (N := N) (val := val) h).2 i c hc
  exact ⟨u, hu, h.one u (List.mem_of_getElem? hu), hv⟩
theorem cells_rel (hR : Rl w0 S a w val) {x : AV} {v : Value} {cs : List AV} (hx : VRel (okB S.H val) w S.H.length val x v) (hc : cellsOfAV S.H x = some cs) :
    v.cells.size = cs.length ∧ ∀ (i : Nat) (c : AV), cs[i]? = some c → ∃ u, v.cells[i]? = some u ∧ u.oneCell' = true ∧ VRel (okB S.H val) w S.H.length val c u := by
  have one : ∀ (y : AV), VRel (okB S.H val) w S.H.length val y v → v.oneCell' = true → v.cells = #[v] → cs = [y] →
      v.cells.size = cs.length ∧ ∀ (i : Nat) (c : AV), cs[i]? = some c → ∃ u, v.cells[i]? = some u ∧ u.oneCell' = true ∧ VRel (okB S.H val) w S.H.length val c u := by
    intro y hy h1 h2 h3
    subst h3
    rw [h2]
    refine ⟨rfl, fun i c hi => ?_⟩
    cases i with
    | zero => simp at hi; subst hi; exact ⟨v, rfl, h1, hy⟩
    | succ i => simp at hi
  cases x <;> simp only [cellsOfAV, Option.some.injEq] at hc <;> (try (cases hc; done))
  case agg t d =>
    obtain ⟨vs, rfl, hr⟩ := hx
    subst hc
    refine ⟨?_, fun i c hi => ?_⟩
    · simp [Value.cells, (rep_cellsAV (N := 0) (val := val) hr).1]
    · obtain ⟨u, hu, h1, h2⟩ := cell_vrel (N := S.H.length) (val := val) hr i c hi
      exact ⟨u, by simpa [Value.cells] using hu, h1, h2⟩
  case int k => have e : v = .int .i64 k := hx; exact one _ hx (by rw [e]; rfl) (by rw [e]; rfl) hc.symm
  case bool k => have e : v = .bool k := hx; exact one _ hx (by rw [e]; rfl) (by rw [e]; rfl) hc.symm
  case str k => have e : v = .string k := hx; exact one _ hx (by rw [e]; rfl) (by rw [e]; rfl) hc.symm
  case u8 k => have e : v = .int .u8 k := hx; exact one _ hx (by rw [e]; rfl) (by rw [e]; rfl) hc.symm
  case sl t l =>
    have hx' : Rep _ w (.sl t) l [v] := hx
    have h1 := hx'.one v (by simp)
    have e : ∃ ad n c, v = .slice ad n c := by
      unfold Rep at hx'
      obtain ⟨ad, cap, he, _⟩ := hx'
      simp at he
      exact ⟨_, _, _, he⟩
    obtain ⟨ad, n, c, e⟩ := e
    exact one _ hx h1 (by rw [e]; rfl) hc.symm
  case ref n =>
    split at hc
    · rename_i e t l hH
      cases hc
      obtain ⟨xs, h1, _⟩ := hR.heap n _ hH
      have e : ∃ ad n c, v = .slice ad n c := by
        rw [hx.2]
        rcases h1.2 with ⟨h2, _⟩ | ⟨g, cap, cur, h2, _⟩
        · exact ⟨_, _, _, h2⟩
        · exact ⟨_, _, _, h2⟩
      obtain ⟨ad, n, c, e⟩ := e
      exact one _ hx (by rw [e]; rfl) (by rw [e]; rfl) rfl
    · cases hc
  case ptr n i => have hx0 := hx; obtain ⟨_, g, _, e⟩ := hx; exact one _ hx0 (by rw [e]; rfl) (by rw [e]; rfl) hc.symm
  case eptr n i k => have hx0 := hx; obtain ⟨h0, g, l, c, h1, e⟩ := hx; exact one _ hx0 (by rw [e]; rfl) (by rw [e]; rfl) hc.symm
  case iptr t d => have hx0 := hx; obtain ⟨b, o, cs', e, _⟩ := hx; exact one _ hx0 (by rw [e]; rfl) (by rw [e]; rfl) hc.symm
  case fn f cap => have hx0 := hx; obtain ⟨vs, e, _⟩ := hx; exact one _ hx0 (by rw [e]; rfl) (by rw [e]; rfl) hc.symm
  case nilsl => have e : v = .slice none 0 0 := hx; exact one _ hx (by rw [e]; rfl) (by rw [e]; rfl) hc.symm

/-- A row, its values elementwise. -/
theorem flat_repl {ok : Nat → Prop} {t : Ty} : ∀ {l : List t.den} {vs : List (List Value)}, vs.length = l.length → (∀ (i : Nat) (y : t.den), l[i]? = some y → ∃ cs, vs[i]? = some cs ∧ Rep ok w t y cs) →
    RepL ok w t l vs.flatten
  | [], [], _, _ => ⟨by simp, fun i y hy => by simp at hy⟩
  | [], _ :: _, h, _ => by simp at h
  | _ :: _, [], h, _ => by simp at h
  | x :: l, c :: vs, hl, h => by
    obtain ⟨h1, h2⟩ := flat_repl (l := l) (vs := vs) (by simpa using hl) (fun i y hy => by simpa using h (i + 1) y (by simpa using hy))
    obtain ⟨c', hc', hr⟩ := h 0 x rfl
    simp at hc'
    subst hc'
    have hlen := hr.length
    refine ⟨by simp [h1, hlen, Nat.add_mul]; omega, fun i y hy => ?_⟩
    rw [List.flatten_cons]
    cases i with
    | zero =>
      simp at hy
      subst hy
      simp only [Nat.zero_mul, List.drop_zero]
      rw [List.take_append_of_le_length (by omega), List.take_of_length_le (by omega)]
      exact hr
    | succ i =>
      have e : (i + 1) * t.n = c.length + i * t.n := by rw [Nat.add_mul, hlen]; omega
      rw [e, List.drop_append]
      rw [List.drop_eq_nil_of_le (by omega : c.length ≤ c.length + i * t.n), List.nil_append, Nat.add_sub_cancel_left]
      exact h2 i y (by simpa using hy)
theorem repl_append {ok : Nat → Prop} {t : Ty} {l m : List t.den} {xs ys : List Value} (h1 : RepL ok w t l xs) (h2 : RepL ok w t m ys) : RepL ok w t (l ++ m) (xs ++ ys) := by
  refine ⟨by rw [List.length_append, h1.1, h2.1, List.length_append, Nat.add_mul], fun i y hy => ?_⟩
  by_cases hi : i < l.length
  · rw [List.getElem?_append_left hi] at hy
    have hle : (i + 1) * t.n ≤ l.length * t.n := Nat.mul_le_mul_right _ (by omega)
    rw [Nat.add_mul] at hle
    have hx := h1.1
    rw [List.drop_append_of_le_length (by omega), List.take_append_of_le_length (by rw [List.length_drop]; omega)]
    exact h1.2 i y hy
  · rw [List.getElem?_append_right (by omega)] at hy
    have hx := h1.1
    have hle : l.length * t.n ≤ i * t.n := Nat.mul_le_mul_right _ (by omega)
    rw [List.drop_append, List.drop_eq_nil_of_le (by omega : xs.length ≤ i * t.n), List.nil_append, hx, ← Nat.sub_mul]
    exact h2.2 _ y hy
theorem repl_set {ok : Nat → Prop} {t : Ty} {l : List t.den} {xs c : List Value} {i : Nat} {y : t.den} (h : RepL ok w t l xs) (hi : i < l.length) (hy : Rep ok w t y c) :
    RepL ok w t (l.set i y) (xs.take (i * t.n) ++ c ++ xs.drop (i * t.n + c.length)) := by
  have hc := hy.length
  have hx := h.1
  have hle : (i + 1) * t.n ≤ l.length * t.n := Nat.mul_le_mul_right _ (by omega)
  rw [Nat.add_mul] at hle
  have hl1 : (xs.take (i * t.n)).length = i * t.n := by rw [List.length_take]; omega
  refine ⟨by simp [hc]; omega, fun j z hz => ?_⟩
  by_cases hj : j = i
  · subst hj
    rw [List.getElem?_set_self hi] at hz
    cases hz
    rw [List.append_assoc, List.drop_append, List.drop_eq_nil_of_le (by omega : (xs.take (j * t.n)).length ≤ j * t.n), List.nil_append, hl1, Nat.sub_self, List.drop_zero,
      List.take_append_of_le_length (by omega), List.take_of_length_le (by omega)]
    exact hy
  · rw [List.getElem?_set_ne (Ne.symm hj)] at hz
    have := h.2 j z hz
    have hjl : j < l.length := (List.getElem?_eq_some_iff.1 hz).1
    refine (congrArg (Rep ok w t z) ?_).mpr this
    apply List.ext_getElem?
    intro q
    rw [List.getElem?_take, List.getElem?_take]
    split
    · rename_i hq
      rw [List.getElem?_drop, List.getElem?_drop]
      rcases Nat.lt_or_ge j i with hlt | hge
      · have : (j + 1) * t.n ≤ i * t.n := Nat.mul_le_mul_right _ (by omega)
        rw [Nat.add_mul] at this
        rw [List.append_assoc, List.getElem?_append_left (by omega), List.getElem?_take, if_pos (by omega)]
      · have : (i + 1) * t.n ≤ j * t.n := Nat.mul_le_mul_right _ (by omega)
        rw [Nat.add_mul] at this
        rw [List.getElem?_append_right (by rw [List.length_append]; omega), List.getElem?_drop]
        congr 1
        rw [List.length_append]; omega
    · rfl
end
end Go.Proofs.Ythogfineaeklpaa.Abs
/- Operations that make memory or write it: what a step may do. -/
namespace Go.Proofs.Ythogfineaeklpaa.Abs
open Go.RowKit
set_option linter.unusedVariables false

def partVals (S : AS) (tt : Ty) : Nat → List (Nat × Operand) → Option (List tt.den)
  | _, [] => some []
  | i, (j, x) :: r => if i = j then (match unInj tt (S.ev x), partVals S tt (i + 1) r with
    | some y, some l => some (y :: l)
    | _, _ => none) else none
def appStep (P : Program) (S : AS) (dst : Option Tmp) (ts : List TypeId) (xs : List Operand) (K : AS → Prop) : Prop :=
  match ts, xs with
  | [t, t'], [s, x] => t' = t ∧ (match S.ev s with
    | .nilsl => ∃ e tt, slElem P t = some e ∧ tyOf P 8 e = some tt ∧ elemOk P e tt ∧ ∃ l2, srcOf S tt (S.ev x) = some l2 ∧ l2.length ≤ 4294967296 ∧ K (S.new dst (.ref S.H.length) (.row e tt l2))
    | .ref n => (match S.H[n]? with
      | some (some (.row e tt l)) => slElem P t = some e ∧ elemOk P e tt ∧ ∃ l2, srcOf S tt (S.ev x) = some l2 ∧ l.length + l2.length ≤ 4294967296 ∧
        K ({ S with H := S.H.set n none ++ [some (Blk.row e tt (l ++ l2))] }.put dst (.ref S.H.length))
      | _ => False)
    | _ => False)
  | _, _ => False
def sstep (P : Program) (S : AS) (o : Oper) (K : AS → Prop) : Prop :=
  match o.op with
  | .box e x => ∃ cs, cellsOfAV S.H (S.ev x) = some cs ∧ K (S.new o.dst (.ptr S.H.length 0) (.box e cs))
  | .alloc e => ∃ cs, zAVs P e = some cs ∧ K (S.new o.dst (.ptr S.H.length 0) (.box e cs))
  | .store t a x => (match S.ev a with
    | .ptr n i => (match S.H[n]? with
      | some (some (.box e cs)) => ∃ xs, cellsOfAV S.H (S.ev x) = some xs ∧ szOf P t = some xs.length ∧ i + xs.length ≤ cs.length ∧ K ({ S with H := S.H.set n (some (.box e (splice cs i xs))) }.put o.dst .undef)
      | _ => False)
    | .eptr n i k => (match S.H[n]? with
      | some (some (.row e tt l)) => k = tt.n ∧ szOf P t = some tt.n ∧ i < l.length ∧ ∃ y, unInj tt (S.ev x) = some y ∧ K ({ S with H := S.H.set n (some (.row e tt (l.set i y))) }.put o.dst .undef)
      | _ => False)
    | _ => False)
  | .buildSlice t len parts => ∃ e tt, slElem P t = some e ∧ tyOf P 8 e = some tt ∧ elemOk P e tt ∧ ∃ l, partVals S tt 0 parts.toList = some l ∧ l.length = len ∧ len * tt.n ≤ 16777216 ∧
      K (S.new o.dst (.ref S.H.length) (.row e tt l))
  | .makeSlice t l c => (match S.ev l, S.ev c with
    | .int p, .int q => ∃ e tt, slElem P t = some e ∧ tyOf P 8 e = some tt ∧ elemOk P e tt ∧ 0 ≤ p ∧ p ≤ q ∧ q ≤ 4294967296 ∧ K (S.new o.dst (.ref S.H.length) (.row e tt (List.replicate p.toNat (zden tt))))
    | _, _ => False)
  | .call c => (match c.callee with
    | .builtin .append => appStep P S o.dst c.argTypes.toList c.args.toList K
    | .value f => (∃ v, qcall P S o v ∧ K (S.put o.dst v)) ∨ (match S.ev f with
      | .fn f cap => ∃ args e tt l, argsOk S (c.args.toList.map S.ev) args ∧ Spec P f (args ++ cap.map fun c => .iptr c.1 c.2) [.own e tt l] ∧ K (S.new o.dst (.ref S.H.length) (.row e tt l))
      | _ => False)
    | _ => ∃ v, qval P S o v ∧ K (S.put o.dst v))
  | _ => ∃ v, qval P S o v ∧ K (S.put o.dst v)

section
variable {P : Program} {w0 w w1 : World} {S : AS} {a : Act} {val : Nat → Value}
theorem wp_of_value {o : Oper} {v : Value} {next : Act → World → Prop} {Q : Exit → Act → World → Prop} (h : (execOp a.eval o).run P w = .ok (.value v) w1) (hn : next (a.put o.dst v) w1) : o.wp P a w next Q := by
  unfold Oper.wp
  rw [h]
  exact hn
theorem wp_of_skip {o : Oper} {next : Act → World → Prop} {Q : Exit → Act → World → Prop} (h : (execOp a.eval o).run P w = .ok .skip w1) (hn : next (a.put o.dst undef) w1) : o.wp P a w next Q := by
  unfold Oper.wp
  rw [h]
  exact hn
theorem q_step (hR : Rl w0 S a w val) {o : Oper} {v : AV} (h : qval P S o v) {next : Act → World → Prop} {Q : Exit → Act → World → Prop}
    (hn : ∀ a' w', Rl w0 (S.put o.dst v) a' w' val → next a' w') : o.wp P a w next Q := by
  obtain ⟨u, h1, h2⟩ := q_sound hR h
  exact wp_of_value h1 (hn _ _ (hR.put o.dst h2))
theorem box_step (hR : Rl w0 S a w val) {o : Oper} {e : TypeId} {x : Operand} (hop : o.op = .box e x) {cs : List AV} (hc : cellsOfAV S.H (S.ev x) = some cs) {next : Act → World → Prop} {Q : Exit → Act → World → Prop}
    (hn : ∀ a' w' val', Rl w0 (S.new o.dst (.ptr S.H.length 0) (.box e cs)) a' w' val' → next a' w') : o.wp P a w next Q := by
  obtain ⟨h1, h2⟩ := cells_rel hR (hR.ev x) hc
  have hF := hR.freshBox (e := e) h1 h2
  refine wp_of_value (v := .pointer (some ⟨w.heap.size, 0, none⟩)) (w1 := w.alloc (.cells (a.eval x).cells e)) ?_ (hn _ _ _ (hF.put o.dst ⟨by simp, _, upd_self _ _ _, rfl⟩))
  obtain ⟨dst, op, type, pos, after, guard⟩ := o
  simp only at hop
  subst hop
  simp [execOp, Instr.box, newVar, newRow]
theorem zav_rel {ok : Nat → Prop} {N : Nat} : ∀ {vs : List Value} {cs : List AV}, vs.mapM cvz = some cs → vs.length = cs.length ∧ ∀ (i : Nat) (c : AV), cs[i]? = some c → ∃ u, vs[i]? = some u ∧ u.oneCell' = true ∧ VRel ok w N val c u
  | [], cs, h => by simp at h; subst h; exact ⟨rfl, fun i c hc => by simp at hc⟩
  | v :: vs, cs, h => by
    simp only [List.mapM_cons, Option.bind_eq_bind, Option.bind_eq_some_iff] at h
    obtain ⟨c, hc, cs', hcs, h⟩ := h
    cases h
    obtain ⟨h1, h2⟩ := zav_rel hcs
    refine ⟨by simp [h1], fun i d hd => ?_⟩
    cases i with
    | zero =>
      simp at hd
      subst hd
      refine ⟨v, rfl, ?_⟩
      unfold cvz at hc
      split at hc <;> cases hc <;> exact ⟨rfl, rfl⟩
    | succ i => simpa using h2 i d (by simpa using hd)
theorem alloc_step (hR : Rl w0 S a w val) {o : Oper} {e : TypeId} (hop : o.op = .alloc e) {cs : List AV} (hc : zAVs P e = some cs) {next : Act → World → Prop} {Q : Exit → Act → World → Prop}
    (hn : ∀ a' w' val', Rl w0 (S.new o.dst (.ptr S.H.length 0) (.box e cs)) a' w' val' → next a' w') : o.wp P a w next Q := by
  unfold zAVs at hc
  simp only [Option.bind_eq_some_iff] at hc
  obtain ⟨z, ⟨i, hi, hz⟩, hm⟩ := hc
  obtain ⟨h1, h2⟩ := zav_rel (w := w) (ok := okB S.H val) (N := S.H.length) (val := val) hm
  have hF := hR.freshBox (e := e) (cur := z.cells) (by simpa using h1) (fun i c hi => by simpa using h2 i c hi)
  refine wp_of_value (v := .pointer (some ⟨w.heap.size, 0, none⟩)) (w1 := w.alloc (.cells z.cells e)) ?_ (hn _ _ _ (hF.put o.dst ⟨by simp, _, upd_self _ _ _, rfl⟩))
  obtain ⟨dst, op, type, pos, after, guard⟩ := o
  simp only at hop
  subst hop
  simp [execOp, Instr.alloc, newVar, newRow, zeroValue, typeInfo, hi, hz]
theorem splice_get {cs xs : List AV} {i j : Nat} {c : AV} (hl : i + xs.length ≤ cs.length) (h : (splice cs i xs)[j]? = some c) : (i ≤ j ∧ j < i + xs.length ∧ xs[j - i]? = some c) ∨ ((j < i ∨ i + xs.length ≤ j) ∧ cs[j]? = some c) := by
  have gen : (cs.take i ++ xs ++ cs.drop (i + xs.length))[j]? = some c → (i ≤ j ∧ j < i + xs.length ∧ xs[j - i]? = some c) ∨ ((j < i ∨ i + xs.length ≤ j) ∧ cs[j]? = some c) := by
    intro h
    have h0 : (cs.take i).length = i := by rw [List.length_take]; omega
    rcases Nat.lt_or_ge j i with h1 | h1
    · rw [List.append_assoc, List.getElem?_append_left (by omega), List.getElem?_take, if_pos h1] at h
      exact .inr ⟨.inl h1, h⟩
    · rcases Nat.lt_or_ge j (i + xs.length) with h2 | h2
      · rw [List.append_assoc, List.getElem?_append_right (by omega), List.getElem?_append_left (by omega), h0] at h
        exact .inl ⟨h1, h2, h⟩
      · rw [List.getElem?_append_right (by rw [List.length_append]; omega), List.getElem?_drop, List.length_append, h0] at h
        refine .inr ⟨.inr h2, ?_⟩
        rw [← h]; congr 1; omega
  unfold splice at h
  split at h
  · rename_i x
    simp only [List.length_singleton] at hl ⊢
    by_cases hj : i = j
    · subst hj
      rw [List.getElem?_set_self (by omega)] at h
      cases h
      exact .inl ⟨Nat.le_refl _, by omega, by simp⟩
    · rw [List.getElem?_set_ne hj] at h
      exact .inr ⟨by omega, h⟩
  · exact gen h
theorem length_splice {cs xs : List AV} {i : Nat} (hl : i + xs.length ≤ cs.length) : (splice cs i xs).length = cs.length := by
  unfold splice
  split
  · simp
  · simp; omega
theorem store_run {t : TypeId} {g o : Nat} {e : TypeId} {cur : Array Value} {v : Value} (hg : w.heap[g]? = some (.cells cur e (0, 0))) (hs : szOf P t = some v.cells.size) (hf : o + v.cells.size ≤ cur.size)
    (h1 : ∀ u ∈ v.cells.toList, u.oneCell' = true) :
    (Instr.storeAt t (.pointer (some ⟨g, o, none⟩)) v).run P w = .ok () (w.setRow g (cur.toList.take o ++ v.cells.toList ++ cur.toList.drop (o + v.cells.size)).toArray) := by
  have := run_storeCells_at P g o e v.cells.toList 0 cur w hg (by simpa using hf) h1
  simp only [Nat.add_zero, Array.length_toList] at this
  simp [Instr.storeAt, Instr.sureAddr, storeVar, run_sz hs, this]
theorem setRow_frame (w : World) (g : Nat) (c : Array Value) : (w.setRow g c).heap.size = w.heap.size ∧ (w.setRow g c).os = w.os ∧ (w.setRow g c).tape = w.tape ∧ (w.setRow g c).output = w.output := by
  unfold World.setRow; simp
theorem storeBox_step (hR : Rl w0 S a w val) {o : Oper} {t : TypeId} {p x : Operand} (hop : o.op = .store t p x) {n i : Nat} (hp : S.ev p = .ptr n i) {e : TypeId} {cs xs : List AV} (hH : S.H[n]? = some (some (.box e cs)))
    (hc : cellsOfAV S.H (S.ev x) = some xs) (hs : szOf P t = some xs.length) (hl : i + xs.length ≤ cs.length) {next : Act → World → Prop} {Q : Exit → Act → World → Prop}
    (hn : ∀ a' w' val', Rl w0 ({ S with H := S.H.set n (some (.box e (splice cs i xs))) }.put o.dst .undef) a' w' val' → next a' w') : o.wp P a w next Q := by
  obtain ⟨h1, h2⟩ := cells_rel hR (hR.ev x) hc
  have hpv := hR.ev p
  rw [hp] at hpv
  obtain ⟨_, g, hv, hpe⟩ := hpv
  obtain ⟨g', cur, k1, k2, k3, k4, k5⟩ := hR.heap n _ hH
  rw [hv] at k1
  cases k1
  have hrun := store_run (P := P) (w := w) (t := t) (g := g) (o := i) (v := a.eval x) k3 (by rw [hs, h1]) (by omega) (fun u hu => by
    obtain ⟨j, hj⟩ := List.mem_iff_getElem?.1 hu
    have hj' : (a.eval x).cells[j]? = some u := by simpa using hj
    have hlt : j < xs.length := by rw [← h1]; exact (Array.getElem?_eq_some_iff.1 hj').1
    obtain ⟨u', hu', ho, _⟩ := h2 j xs[j] (by simp [hlt])
    rw [hj'] at hu'
    cases hu'
    exact ho)
  have fr := setRow_frame w g (cur.toList.take i ++ (a.eval x).cells.toList ++ cur.toList.drop (i + (a.eval x).cells.size)).toArray
  have hW := hR.write (w1 := w.setRow g (cur.toList.take i ++ (a.eval x).cells.toList ++ cur.toList.drop (i + (a.eval x).cells.size)).toArray) (B' := .box e (splice cs i xs)) hH (g := g) (by rw [hv]; rfl)
    fr.1 fr.2.1 fr.2.2.1 fr.2.2.2 (fun k hk => setRow_other _ _ _ _ hk) (fun K => by
      refine ⟨g, _, hv, k2, setRow_heap w g cur _ e (0, 0) k3, ?_, fun j c hj => ?_⟩
      · rw [length_splice hl]
        simp
        omega
      · rcases splice_get hl hj with ⟨m1, m2, m3⟩ | ⟨m1, m3⟩
        · obtain ⟨u, hu, ho, hr⟩ := h2 _ c m3
          refine ⟨u, ?_, ho, hr.keep K⟩
          simp only [List.getElem?_toArray]
          rw [List.append_assoc, List.getElem?_append_right (by simp; omega), List.getElem?_append_left (by simp; omega)]
          simp only [List.length_take, Array.length_toList]
          rw [show min i cur.size = i by omega]
          simpa using hu
        · obtain ⟨u, hu, ho, hr⟩ := k5 j c m3
          refine ⟨u, ?_, ho, hr.keep K⟩
          simp only [List.getElem?_toArray]
          rcases m1 with m1 | m1
          · rw [List.append_assoc, List.getElem?_append_left (by simp; omega), List.getElem?_take, if_pos m1]
            simpa using hu
          · rw [List.getElem?_append_right (by simp; omega), List.getElem?_drop]
            simp only [List.length_append, List.length_take, Array.length_toList]
            rw [show i + (a.eval x).cells.size + (j - (min i cur.size + (a.eval x).cells.size)) = j by omega]
            simpa using hu)
  refine wp_of_skip (w1 := w.setRow g (cur.toList.take i ++ (a.eval x).cells.toList ++ cur.toList.drop (i + (a.eval x).cells.size)).toArray) ?_ (hn _ _ _ (hW.put o.dst rfl))
  obtain ⟨dst, op, type, pos, after, guard⟩ := o
  simp only at hop
  subst hop
  simp [execOp, hpe, hrun]
theorem storeRow_step (hR : Rl w0 S a w val) {o : Oper} {t : TypeId} {p x : Operand} (hop : o.op = .store t p x) {n i : Nat} {e : TypeId} {tt : Ty} (hp : S.ev p = .eptr n i tt.n) {l : List tt.den} (hH : S.H[n]? = some (some (.row e tt l)))
    {y : tt.den} (hy : unInj tt (S.ev x) = some y) (hs : szOf P t = some tt.n) (hi : i < l.length) {next : Act → World → Prop} {Q : Exit → Act → World → Prop}
    (hn : ∀ a' w' val', Rl w0 ({ S with H := S.H.set n (some (.row e tt (l.set i y))) }.put o.dst .undef) a' w' val' → next a' w') : o.wp P a w next Q := by
  obtain ⟨_, hrep⟩ := unInj_rep hy (hR.ev x)
  have hlen : (a.eval x).cells.size = tt.n := by have := hrep.length; simpa using this
  have hpv := hR.ev p
  rw [hp] at hpv
  obtain ⟨_, g, len, cap, hv, hpe⟩ := hpv
  obtain ⟨xs, h1, h2⟩ := hR.heap n _ hH
  rcases h1.2 with ⟨h3, _⟩ | ⟨g', cap', cur, h3, h4, h5, h6, h7, h8, h9⟩
  · rw [hv] at h3; cases h3
  · have h3' := h3
    rw [hv] at h3
    cases h3
    have hle : (i + 1) * tt.n ≤ l.length * tt.n := Nat.mul_le_mul_right _ (by omega)
    have hle2 : l.length * tt.n ≤ cap * tt.n := Nat.mul_le_mul_right _ h6
    rw [Nat.add_mul] at hle
    have hrun := store_run (P := P) (w := w) (t := t) (g := g) (o := i * tt.n) (v := a.eval x) h5 (by rw [hs, hlen]) (by omega) hrep.one
    have fr := setRow_frame w g (cur.toList.take (i * tt.n) ++ (a.eval x).cells.toList ++ cur.toList.drop (i * tt.n + (a.eval x).cells.size)).toArray
    have hW := hR.write (w1 := w.setRow g (cur.toList.take (i * tt.n) ++ (a.eval x).cells.toList ++ cur.toList.drop (i * tt.n + (a.eval x).cells.size)).toArray) (B' := .row e tt (l.set i y)) hH (g := g) (by rw [hv]; rfl)
      fr.1 fr.2.1 fr.2.2.1 fr.2.2.2 (fun k hk => setRow_other _ _ _ _ hk) (fun K => by
        have hset := repl_set h2 hi hrep
        refine ⟨xs.take (i * tt.n) ++ (a.eval x).cells.toList ++ xs.drop (i * tt.n + (a.eval x).cells.toList.length), ?_, hset.1, fun j z hz => (hset.2 j z hz).mono K.size K.ok⟩
        refine ⟨by rw [hset.1, List.length_set], .inr ⟨g, cap, _, by rw [List.length_set]; exact h3', h4, setRow_heap w g cur _ e (0, 0) h5, by rw [List.length_set]; exact h6, h7, ?_, ?_⟩⟩
        · simp; omega
        · rw [List.length_set]
          subst h9
          have hx := h1.1
          rw [List.length_take, Array.length_toList] at hx
          apply List.ext_getElem?
          intro q
          simp only [List.getElem?_take, List.getElem?_append, List.length_append, List.length_take, Array.length_toList, List.getElem?_drop, hlen]
          rw [show min (i * tt.n) cur.size = i * tt.n by omega, show min (l.length * tt.n) cur.size = l.length * tt.n by omega, show min (i * tt.n) (l.length * tt.n) = i * tt.n by omega]
          by_cases q1 : q < i * tt.n
          · have : q < l.length * tt.n := by omega
            simp [q1, this, show q < i * tt.n + tt.n by omega]
          · by_cases q2 : q < i * tt.n + tt.n
            · have : q < l.length * tt.n := by omega
              simp [q1, q2, this]
            · by_cases q3 : q < l.length * tt.n
              · simp [q2, q3, show i * tt.n + tt.n + (q - (i * tt.n + tt.n)) = q by omega]
              · simp [q2, q3, show ¬ (i * tt.n + tt.n + (q - (i * tt.n + tt.n)) < l.length * tt.n) by omega])
    refine wp_of_skip (w1 := w.setRow g (cur.toList.take (i * tt.n) ++ (a.eval x).cells.toList ++ cur.toList.drop (i * tt.n + (a.eval x).cells.size)).toArray) ?_ (hn _ _ _ (hW.put o.dst rfl))
    obtain ⟨dst, op, type, pos, after, guard⟩ := o
    simp only at hop
    subst hop
    simp [execOp, hpe, hrun]
end
end Go.Proofs.Ythogfineaeklpaa.Abs
/- Operations that make slices, and calls whose result is the caller's own. -/
namespace Go.Proofs.Ythogfineaeklpaa.Abs
open Go.RowKit
set_option linter.unusedVariables false

section
variable {P : Program} {w0 w w1 : World} {S : AS} {a : Act} {val : Nat → Value}
theorem ok_new {ok : Nat → Prop} {v : Value} {g : Nat} (hv : ownB v = some g) (hsz : w.heap.size ≤ g) {t : Ty} {x : t.den} {cs : List Value} {w1 : World} (hb : Below w.heap.size w w1) (h : Rep ok w t x cs) :
    Rep (fun b => ok b ∧ ownB v ≠ some b) w1 t x cs :=
  h.mono hb.size fun b hk hlt => ⟨⟨hk, fun e => by rw [hv] at e; cases e; omega⟩, hb.block b hlt⟩
/-- A block that has just been made, full of a row. -/
theorem new_row (hR : Rl w0 S a w val) {e : TypeId} {t : Ty} {l : List t.den} {xs : List Value} {cur : Array Value} {cap : Nat} (hr : RepL (okB S.H val) w t l xs) (hn : l.length ≤ cap) (hc : cap ≤ maxLen) (hs : cur.size = cap * t.n)
    (ht : cur.toList.take (l.length * t.n) = xs) :
    Rl w0 { S with H := S.H ++ [some (.row e t l)] } a (w.alloc (.cells cur e)) (upd val S.H.length (.slice (some ⟨w.heap.size, 0, none⟩) l.length cap)) := by
  have hb : Below w.heap.size w (w.alloc (.cells cur e)) := (Below.refl _ _).alloc (Nat.le_refl _) _
  exact hR.freshRow hb (xs := xs) ⟨hr.1, .inr ⟨w.heap.size, cap, cur, rfl, Nat.le_refl _, heap_alloc_new _ _, hn, hc, hs, ht⟩⟩
    ⟨hr.1, fun i y hy => ok_new (v := .slice (some ⟨w.heap.size, 0, none⟩) l.length cap) rfl (Nat.le_refl _) hb (hr.2 i y hy)⟩
theorem made_row {ok : Nat → Prop} {t : Ty} {z : Array Value} (hz : z.toList = zcellsOf t) (n m : Nat) (h : n ≤ m) :
    RepL ok w t (List.replicate n (zden t)) ((madeCells z (m * t.n)).toList.take (n * t.n)) := by
  have hzl : z.size = t.n := by have := (zrep (ok := fun _ => True) (w := default) t).length; rw [← hz] at this; simpa using this
  have hp := t.n_pos
  have hle : n * t.n ≤ m * t.n := Nat.mul_le_mul_right _ h
  refine ⟨by rw [List.length_take, Array.length_toList, size_madeCells, List.length_replicate]; omega, fun i y hy => ?_⟩
  have hi : i < n := by
    have := (List.getElem?_eq_some_iff.1 hy).1
    simpa using this
  have hyz : y = zden t := by
    rw [List.getElem?_replicate, if_pos hi] at hy
    cases hy; rfl
  subst hyz
  have hin : (i + 1) * t.n ≤ n * t.n := Nat.mul_le_mul_right _ (by omega)
  rw [Nat.add_mul] at hin
  have e : ((madeCells z (m * t.n)).toList.take (n * t.n) |>.drop (i * t.n)).take t.n = zcellsOf t := by
    rw [← hz]
    apply List.ext_getElem?
    intro q
    rw [List.getElem?_take]
    split
    · rename_i hq
      rw [List.getElem?_drop, List.getElem?_take, if_pos (by omega)]
      have hlt : i * t.n + q < m * t.n := by omega
      have hmod : (i * t.n + q) % z.size = q := by rw [hzl, Nat.mul_comm, Nat.mul_add_mod, Nat.mod_eq_of_lt (by omega)]
      have hqz : q < z.size := by omega
      simp [madeCells, hlt, hmod, hqz]
    · rw [List.getElem?_eq_none (by simp; omega)]
  rw [e]
  exact zrep t
theorem make_step (hR : Rl w0 S a w val) {o : Oper} {t : TypeId} {l c : Operand} (hop : o.op = .makeSlice t l c) {p q : Int} (hl : S.ev l = .int p) (hc : S.ev c = .int q) {e : TypeId} {tt : Ty} (hs : slElem P t = some e) (he : elemOk P e tt)
    (h0 : 0 ≤ p) (h1 : p ≤ q) (h2 : q ≤ 4294967296) {next : Act → World → Prop} {Q : Exit → Act → World → Prop}
    (hn : ∀ a' w' val', Rl w0 (S.new o.dst (.ref S.H.length) (.row e tt (List.replicate p.toNat (zden tt)))) a' w' val' → next a' w') : o.wp P a w next Q := by
  obtain ⟨i, z, hi, hz, hsz, hby, hzc⟩ := elemOk_info he
  have hlv := hR.ev l
  have hcv := hR.ev c
  rw [hl] at hlv
  rw [hc] at hcv
  have hlv' : a.eval l = .int .i64 p := hlv
  have hcv' : a.eval c = .int .i64 q := hcv
  have hbc : (i.bytes : Int) * q ≤ 281474976710656 := by
    have h3 : (i.bytes : Int) * q ≤ 1024 * q := Int.mul_le_mul_of_nonneg_right (by omega) (by omega)
    omega
  have hrun := run_make (P := P) w t e i z (slElem_und hs) hi hz .i64 .i64 p q h0 h1 hbc (by omega)
  have hrow := made_row (ok := okB S.H val) (w := w) hzc p.toNat q.toNat (by omega)
  have hF := new_row (e := e) (cap := q.toNat) (cur := madeCells z.cells (q.toNat * tt.n)) hR hrow (by simp; omega) (by unfold maxLen; omega) (by simp [size_madeCells]) (by simp)
  refine wp_of_value (v := .slice (some ⟨w.heap.size, 0, none⟩) p.toNat q.toNat) (w1 := w.alloc (.cells (madeCells z.cells (q.toNat * tt.n)) e)) ?_ (hn _ _ _ (hF.put o.dst (x := .ref S.H.length) ⟨by simp, ?_⟩))
  · obtain ⟨dst, op, type, pos, after, guard⟩ := o
    simp only at hop
    subst hop
    rw [hsz] at hrun
    simp [execOp, hlv', hcv', hrun]
  · rw [upd_self]; simp
theorem partVals_rel (hR : Rl w0 S a w val) {tt : Ty} : ∀ {i : Nat} {ps : List (Nat × Operand)} {l : List tt.den}, partVals S tt i ps = some l →
    l.length = ps.length ∧ (ps.map fun x => (x.1, a.eval x.2)) = (((ps.map fun (x : Nat × Operand) => a.eval x.2).zipIdx i).map fun x => (x.2, x.1)) ∧
    ∀ (j : Nat) (y : tt.den), l[j]? = some y → ∃ x, ps[j]? = some x ∧ Rep (okB S.H val) w tt y (a.eval x.2).cells.toList
  | i, [], l, h => by unfold partVals at h; cases h; exact ⟨rfl, rfl, fun j y hy => by simp at hy⟩
  | i, (j, x) :: r, l, h => by
    unfold partVals at h
    split at h
    · rename_i hij
      subst hij
      split at h
      · rename_i y l' hy hl
        cases h
        obtain ⟨h1, h2, h3⟩ := partVals_rel hR hl
        refine ⟨by simp [h1], by simp [h2], fun k z hz => ?_⟩
        cases k with
        | zero => simp at hz; subst hz; exact ⟨_, rfl, (unInj_rep hy (hR.ev x)).2⟩
        | succ k => simpa using h3 k z (by simpa using hz)
      · cases h
    · cases h
theorem buildSlice_step (hR : Rl w0 S a w val) {o : Oper} {t : TypeId} {len : Nat} {parts : Array (Nat × Operand)} (hop : o.op = .buildSlice t len parts) {e : TypeId} {tt : Ty} (hs : slElem P t = some e) (he : elemOk P e tt)
    {l : List tt.den} (hl : partVals S tt 0 parts.toList = some l) (hlen : l.length = len) (hsm : len * tt.n ≤ 16777216) {next : Act → World → Prop} {Q : Exit → Act → World → Prop}
    (hn : ∀ a' w' val', Rl w0 (S.new o.dst (.ref S.H.length) (.row e tt l)) a' w' val' → next a' w') : o.wp P a w next Q := by
  obtain ⟨i, z, hi, hz, hsz, hby, hzc⟩ := elemOk_info he
  have hp := tt.n_pos
  obtain ⟨h1, h2, h3⟩ := partVals_rel hR hl
  have hpl : parts.toList.length = len := by rw [← h1, hlen]
  have hcs : ∀ v ∈ (parts.toList.map fun (x : Nat × Operand) => a.eval x.2), v.cells.size = tt.n := by
    intro v hv
    obtain ⟨x, hx, rfl⟩ := List.mem_map.1 hv
    obtain ⟨j, hj⟩ := List.mem_iff_getElem?.1 hx
    have hlt : j < l.length := by rw [h1]; exact (List.getElem?_eq_some_iff.1 hj).1
    obtain ⟨x', hx', hr⟩ := h3 j l[j] (by simp [hlt])
    rw [hj] at hx'
    cases hx'
    have := hr.length
    simpa using this
  have hrow : RepL (okB S.H val) w tt l ((parts.toList.map fun (x : Nat × Operand) => (a.eval x.2).cells.toList).flatten) := by
    refine flat_repl (by simp [h1]) fun j y hy => ?_
    obtain ⟨x, hx, hr⟩ := h3 j y hy
    exact ⟨_, by rw [List.getElem?_map, hx]; rfl, hr⟩
  have hfm : ((parts.toList.map fun (x : Nat × Operand) => a.eval x.2).flatMap fun v => v.cells.toList) = (parts.toList.map fun (x : Nat × Operand) => (a.eval x.2).cells.toList).flatten := by
    rw [List.flatMap_def, List.map_map]; rfl
  have hF := new_row (e := e) (cap := len) (cur := ((parts.toList.map fun (x : Nat × Operand) => (a.eval x.2).cells.toList).flatten).toArray) hR hrow (by omega) (by
      unfold maxLen
      have : len ≤ len * tt.n := Nat.le_mul_of_pos_right _ hp
      omega) (by have := hrow.1; simp only [List.size_toArray]; rw [this, hlen]) (by
      rw [List.take_of_length_le (by have := hrow.1; simp only; omega)])
  refine wp_of_value (v := .slice (some ⟨w.heap.size, 0, none⟩) len len) (w1 := w.alloc (.cells ((parts.toList.map fun (x : Nat × Operand) => (a.eval x.2).cells.toList).flatten).toArray e)) ?_ (hn _ _ _ (hF.put o.dst (x := .ref S.H.length) ⟨by simp, ?_⟩))
  · have hbs : (Instr.buildSlice t len (parts.map fun (i, x) => (i, a.eval x))).run P w = .ok (.slice (some ⟨w.heap.size, 0, none⟩) len len) (w.alloc (.cells ((parts.toList.map fun (x : Nat × Operand) => (a.eval x.2).cells.toList).flatten).toArray e)) := by
      have hpt : (parts.map fun (i, x) => (i, a.eval x)).toList = ((parts.toList.map fun (x : Nat × Operand) => a.eval x.2).zipIdx 0).map fun x => (x.2, x.1) := by
        rw [Array.toList_map]; exact h2
      by_cases hz0 : len = 0
      · subst hz0
        have hnil : parts.toList = [] := List.eq_nil_of_length_eq_zero hpl
        have hparts : parts = #[] := by apply Array.ext'; simpa using hnil
        subst hparts
        simp [Instr.buildSlice, run_underlying (slElem_und hs), sizeOf, typeInfo, hi, Instr.fill, newRow]
        exact congrArg (fun c => w.alloc (.cells c e)) (Array.eq_empty_of_size_eq_zero (by simp))
      · have hpos : ¬ len * i.size = 0 := by rw [hsz]; exact Nat.mul_ne_zero hz0 (by omega)
        refine run_buildSlice w t e len _ _ i z (slElem_und hs) hi hz (by rw [hsz]; omega) hpos ?_
        rw [hpt, hsz, ← hfm]
        exact Great.fill_whole hp _ _ hcs (by simp only [List.length_map, Array.size_map, Array.size_range]; rw [hpl])
    obtain ⟨dst, op, type, pos, after, guard⟩ := o
    simp only at hop
    subst hop
    simp only [execOp, Sem.run_bind, hbs, Result.andThen_ok]
    rfl
  · rw [upd_self, hlen]

theorem run_append_none {t ty e : TypeId} {i : TypeInfo} (ht : P.underlying t = some (.slice e)) (hi : P.info? e = some i) {v u : Value} {n : Nat} {base : Nat} {xs : List Value}
    (ho : w.ownsRow base e i.size v n xs) (hu : ∃ ad c, u = .slice ad 0 c) : (Builtin.append_ #[t, t] ty #[v, u]).run P w = .ok v w := by
  obtain ⟨ad, c, rfl⟩ := hu
  have hv : ∃ b cap, v = .slice b n cap ∧ n ≤ cap := by
    rcases ho.2 with ⟨rfl, rfl⟩ | ⟨g, cap, cur, rfl, _, _, h, _⟩
    · exact ⟨none, 0, rfl, Nat.le_refl _⟩
    · exact ⟨_, cap, rfl, h⟩
  obtain ⟨b, cap, rfl, hle⟩ := hv
  cases ad <;> cases b <;> simp [Builtin.append_, run_underlying ht, sizeOf, typeInfo, hi, Builtin.lenOf, Builtin.firstCells, loadCells, loadCellsFrom, hle, storeCells]
/-- Where the row lies that an append hands back. -/
theorem append_where {base : Nat} {t ty e : TypeId} {i : TypeInfo} {z : Value} (ht : P.underlying t = some (.slice e)) (hi : P.info? e = some i) (hz : i.zero = some z)
    {v : Value} {n : Nat} {xs : List Value} (hown : w.ownsRow base e i.size v n xs)
    {ad : Addr} {m c : Nat} {news : List Value} (hl : news.length = m * i.size) (hnews : ∀ j u, news[j]? = some u → w.cell? (ad.add j) = some u) (h1 : ∀ u ∈ news, u.oneCell' = true)
    (h63 : n + m ≤ maxLen) (hbytes : (n + m) * i.bytes ≤ 140737488355328) (hm : 0 < m) {v' : Value} {w' : World}
    (hr : (Builtin.append_ #[t, t] ty #[v, .slice (some ad) m c]).run P w = .ok v' w') : ownB v' = ownB v ∨ ownB v' = some w.heap.size := by
  have hsmall : n + m ≤ 9223372036854775807 := by simp only [maxLen] at h63; omega
  rcases hown.2 with ⟨rfl, rfl⟩ | ⟨g, cap, cur, rfl, hbg, hg, hnc, hcm, hcs, htake⟩
  · have h := run_append_nil (P := P) w t ty e i z ht hi hz ad m c news hl hnews hm (by omega) (by have hb := hbytes; simp only [Nat.zero_add] at hb; omega)
    rw [h] at hr
    injection hr with h2 h3
    subst h2
    exact .inr rfl
  · by_cases hroom : n + m ≤ cap
    · have hle : (n + m) * i.size ≤ cap * i.size := Nat.mul_le_mul_right _ hroom
      rw [Nat.add_mul] at hle
      have hfit : n * i.size + news.length ≤ cur.size := by rw [hl, hcs]; exact hle
      have h := run_append_room (P := P) w t ty e i ht hi g n cap cur hg ad m c news hl hnews h1 hroom hfit
      rw [h] at hr
      injection hr with h2 h3
      subst h2
      exact .inl rfl
    · have holds : ∀ j u, xs[j]? = some u → w.cell? ((⟨g, 0, none⟩ : Addr).add j) = some u := hown.cells (g := g) rfl
      have h := run_append_grow (P := P) w t ty e i z ht hi hz ⟨g, 0, none⟩ n cap xs hown.1 holds ad m c news hl hnews (by omega) (by omega) (growslice_fits (by omega) hbytes)
      rw [h] at hr
      injection hr with h2 h3
      subst h2
      exact .inr rfl
/-- What is appended: a slice that reads as this list. -/
theorem src_rel (hR : Rl w0 S a w val) {tt : Ty} {x : AV} {u : Value} (hx : VRel (okB S.H val) w S.H.length val x u) {l : List tt.den} (h : srcOf S tt x = some l) :
    ∃ ad c, u = .slice ad l.length c ∧ (l = [] ∨ ∃ a0 news, ad = some a0 ∧ RepL (okB S.H val) w tt l news ∧ (∀ j v, news[j]? = some v → w.cell? (a0.add j) = some v) ∧ ∀ v ∈ news, v.oneCell' = true) := by
  have ones : ∀ {news : List Value}, RepL (okB S.H val) w tt l news → ∀ v ∈ news, v.oneCell' = true := by
    intro news hr v hv
    obtain ⟨j, hj⟩ := List.mem_iff_getElem?.1 hv
    have hp := tt.n_pos
    have hlt : j < l.length * tt.n := by rw [← hr.1]; exact (List.getElem?_eq_some_iff.1 hj).1
    have hq : j / tt.n < l.length := by rw [Nat.div_lt_iff_lt_mul hp]; exact hlt
    refine (hr.2 (j / tt.n) l[j / tt.n] (by simp [hq])).one v (List.mem_of_getElem? (i := j % tt.n) ?_)
    rw [List.getElem?_take, if_pos (Nat.mod_lt _ hp), List.getElem?_drop]
    rw [show j / tt.n * tt.n + j % tt.n = j by rw [Nat.mul_comm]; exact Nat.div_add_mod j tt.n]
    exact hj
  unfold srcOf at h
  split at h
  · split at h
    · rename_i t l' ht
      subst ht
      cases h
      have hx' : Rep _ w (.sl _) l' [u] := hx
      unfold Rep at hx'
      obtain ⟨ad, cap, he, _, _, h4⟩ := hx'
      simp at he
      refine ⟨ad, cap, he, ?_⟩
      rcases h4 with h4 | ⟨b, o, xs, rfl, _, _, h7, h8, h9⟩
      · exact .inl h4
      · exact .inr ⟨_, xs, rfl, ⟨h7, h9⟩, fun j v hj => by rw [Addr.add_lit]; exact h8 j v hj, ones ⟨h7, h9⟩⟩
    · cases h
  · cases h
    have e : u = .slice none 0 0 := hx
    exact ⟨none, 0, e, .inl rfl⟩
  · split at h
    · rename_i n e t l' hH
      split at h
      · rename_i ht
        subst ht
        cases h
        obtain ⟨xs, h1, h2⟩ := hR.heap _ _ hH
        rw [hx.2]
        rcases h1.2 with ⟨h3, h4⟩ | ⟨g, cap, cur, h3, _⟩
        · exact ⟨none, 0, by rw [h3, h4], .inl (List.eq_nil_of_length_eq_zero h4)⟩
        · exact ⟨_, cap, h3, .inr ⟨_, xs, rfl, h2, h1.cells (g := g) (by rw [h3]; rfl), ones h2⟩⟩
      · cases h
    · cases h
  · cases h
theorem own_as {v : Value} {base : Nat} {e : TypeId} {k n : Nat} {xs : List Value} (h : w.ownsRow base e k v n xs) : v.ownBlock = ownB v := by
  rcases h.2 with ⟨rfl, _⟩ | ⟨g, cap, cur, rfl, _⟩ <;> rfl
theorem app_run {o : Oper} {t : TypeId} {s x : Operand} (hop : o.op = .call { callee := .builtin .append, args := #[s, x], argTypes := #[t, t] }) {v : Value}
    (h : (Builtin.append_ #[t, t] o.type #[a.eval s, a.eval x]).run P w = .ok v w1) : (execOp a.eval o).run P w = .ok (.value v) w1 := by
  obtain ⟨dst, op, type, pos, after, guard⟩ := o
  simp only at hop h
  subst hop
  simp [execOp, resolve, invoke, builtin, h]
theorem append_ref (hR : Rl w0 S a w val) {o : Oper} {t : TypeId} {s x : Operand} (hop : o.op = .call { callee := .builtin .append, args := #[s, x], argTypes := #[t, t] }) {n : Nat} (hs : S.ev s = .ref n)
    {e : TypeId} {tt : Ty} {l l2 : List tt.den} (hH : S.H[n]? = some (some (.row e tt l))) (ht : slElem P t = some e) (he : elemOk P e tt) (hx : srcOf S tt (S.ev x) = some l2) (hlen : l.length + l2.length ≤ 4294967296)
    {next : Act → World → Prop} {Q : Exit → Act → World → Prop}
    (hn : ∀ a' w' val', Rl w0 ({ S with H := S.H.set n none ++ [some (Blk.row e tt (l ++ l2))] }.put o.dst (.ref S.H.length)) a' w' val' → next a' w') : o.wp P a w next Q := by
  obtain ⟨i, z, hi, hz, hsz, hby, hzc⟩ := elemOk_info he
  have hsv := hR.ev s
  rw [hs] at hsv
  obtain ⟨xs, h1, h2⟩ := hR.heap n _ hH
  obtain ⟨ad, c, hu, hsrc⟩ := src_rel hR (hR.ev x) hx
  have hzs : z.cells.size = tt.n := by have := (zrep (ok := fun _ => True) (w := w) tt).length; rw [← hzc] at this; simpa using this
  by_cases hnil : l2 = []
  · subst hnil
    have hrun := run_append_none (P := P) (w := w) (t := t) (ty := o.type) (u := a.eval x) (slElem_und ht) hi (by rw [hsz]; exact h1) ⟨ad, c, hu⟩
    have hF := hR.renew (w1 := w) (v := val n) hH ⟨rfl, rfl, rfl, Nat.le_refl _, fun _ _ _ => rfl⟩ (.inl rfl) (l := l) (xs := xs) h1 h2
    rw [List.append_nil] at hn
    refine wp_of_value (app_run hop (by rw [hsv.2]; exact hrun)) (hn _ _ _ (hF.put o.dst (x := .ref S.H.length) ⟨by simp, ?_⟩))
    rw [upd_self]
  · rcases hsrc with h | ⟨a0, news, rfl, k1, k2, k3⟩
    · exact (hnil h).elim
    · have hm : 0 < l2.length := List.length_pos_iff.2 hnil
      have hb : (l.length + l2.length) * i.bytes ≤ 140737488355328 := by
        have := Nat.mul_le_mul hlen hby
        omega
      have h63 : l.length + l2.length ≤ maxLen := by unfold maxLen; omega
      obtain ⟨v', w', r1, r2, r3, r4⟩ := run_append_own (P := P) w w0.heap.size t o.type e i z tt.n i.bytes (slElem_und ht) hi hz hsz rfl hzs tt.n_pos (val n) l.length xs h1 a0 l2.length c news k1.1 k2 k3 h63 hb hR.below.size
      have r5 := append_where (P := P) (ty := o.type) (slElem_und ht) hi hz (by rw [hsz]; exact h1) (by rw [hsz]; exact k1.1) k2 k3 h63 hb hm r1
      have hF := hR.renew (w1 := w') (v := v') hH (by rw [← own_as h1]; exact r3) (r5.imp id fun h g hg => by rw [h] at hg; cases hg; exact Nat.le_refl _) (l := l ++ l2) (xs := xs ++ news)
        (by rw [List.length_append]; exact r2) (repl_append h2 k1)
      refine wp_of_value (app_run hop (by rw [hsv.2, hu]; exact r1)) (hn _ _ _ (hF.put o.dst (x := .ref S.H.length) ⟨by simp, ?_⟩))
      rw [upd_self]
theorem append_nil_step (hR : Rl w0 S a w val) {o : Oper} {t : TypeId} {s x : Operand} (hop : o.op = .call { callee := .builtin .append, args := #[s, x], argTypes := #[t, t] }) (hs : S.ev s = .nilsl)
    {e : TypeId} {tt : Ty} {l2 : List tt.den} (ht : slElem P t = some e) (he : elemOk P e tt) (hx : srcOf S tt (S.ev x) = some l2) (hlen : l2.length ≤ 4294967296)
    {next : Act → World → Prop} {Q : Exit → Act → World → Prop}
    (hn : ∀ a' w' val', Rl w0 (S.new o.dst (.ref S.H.length) (.row e tt l2)) a' w' val' → next a' w') : o.wp P a w next Q := by
  obtain ⟨i, z, hi, hz, hsz, hby, hzc⟩ := elemOk_info he
  have hsv := hR.ev s
  rw [hs] at hsv
  have hsv' : a.eval s = .slice none 0 0 := hsv
  obtain ⟨ad, c, hu, hsrc⟩ := src_rel hR (hR.ev x) hx
  have hzs : z.cells.size = tt.n := by have := (zrep (ok := fun _ => True) (w := w) tt).length; rw [← hzc] at this; simpa using this
  have hown := World.ownsRow_nil w w.heap.size e tt.n
  by_cases hnil : l2 = []
  · subst hnil
    have hrun := run_append_none (P := P) (w := w) (t := t) (ty := o.type) (u := a.eval x) (slElem_und ht) hi (by rw [hsz]; exact hown) ⟨ad, c, hu⟩
    have hF := hR.freshRow (w1 := w) (v := .slice none 0 0) (Below.refl _ _) (l := []) (xs := []) hown ⟨by simp, fun i y hy => by simp at hy⟩
    refine wp_of_value (app_run hop (by rw [hsv']; exact hrun)) (hn _ _ _ (hF.put o.dst (x := .ref S.H.length) ⟨by simp, ?_⟩))
    rw [upd_self]
  · rcases hsrc with h | ⟨a0, news, rfl, k1, k2, k3⟩
    · exact (hnil h).elim
    · have hm : 0 < l2.length := List.length_pos_iff.2 hnil
      have hb : (0 + l2.length) * i.bytes ≤ 140737488355328 := by
        have := Nat.mul_le_mul hlen hby
        rw [Nat.zero_add]
        omega
      have h63 : 0 + l2.length ≤ maxLen := by unfold maxLen; omega
      obtain ⟨v', w', r1, r2, r3, r4⟩ := run_append_own (P := P) w w.heap.size t o.type e i z tt.n i.bytes (slElem_und ht) hi hz hsz rfl hzs tt.n_pos _ 0 [] hown a0 l2.length c news k1.1 k2 k3 h63 hb (Nat.le_refl _)
      have hbel : Below w.heap.size w w' := (Below.refl _ _).grown r3 (Nat.le_refl _) (fun k hk => by cases hk)
      have r5 := append_where (P := P) (ty := o.type) (slElem_und ht) hi hz (by rw [hsz]; exact hown) (by rw [hsz]; exact k1.1) k2 k3 h63 hb hm r1
      have hblk : ∀ g, ownB v' = some g → w.heap.size ≤ g := fun g hg => by
        rcases r5 with h | h
        · rw [h] at hg; cases hg
        · rw [h] at hg; cases hg; exact Nat.le_refl _
      have hF := hR.freshRow (w1 := w') (v := v') hbel (l := l2) (xs := news) (by simpa using r2)
        ⟨k1.1, fun i y hy => (k1.2 i y hy).mono hbel.size fun b hk hlt => ⟨⟨hk, fun e => by have := hblk b e; omega⟩, hbel.block b hlt⟩⟩
      refine wp_of_value (app_run hop (by rw [hsv', hu]; exact r1)) (hn _ _ _ (hF.put o.dst (x := .ref S.H.length) ⟨by simp, ?_⟩))
      rw [upd_self]
/-- A call whose one result is a row of the caller's own. -/
theorem call_own (hR : Rl w0 S a w val) {o : Oper} {f : Operand} {args : Array Operand} {ts : Array TypeId} (hop : o.op = .call { callee := .value f, args := args, argTypes := ts }) {f' : FuncId} {cap : List TV} (ef : S.ev f = .fn f' cap)
    {args' : List AV} {e : TypeId} {tt : Ty} {l : List tt.den} (h1 : argsOk S (args.toList.map S.ev) args') (hsp : Spec P f' (args' ++ cap.map fun c => .iptr c.1 c.2) [.own e tt l])
    {next : Act → World → Prop} {Q : Exit → Act → World → Prop}
    (hn : ∀ a' w' val', Rl w0 (S.new o.dst (.ref S.H.length) (.row e tt l)) a' w' val' → next a' w') : o.wp P a w next Q := by
  obtain ⟨hent, hsp⟩ := hsp
  have hf := hR.ev f
  rw [ef] at hf
  obtain ⟨cvs, hf1, hf2, hf3⟩ := hf
  obtain ⟨k1, k2⟩ := args_ok hR (vs := args.toList.map a.eval) h1 (by simp) (fun i x hx => by
    rw [List.getElem?_map] at hx ⊢
    cases hc : args.toList[i]? with
    | none => rw [hc] at hx; cases hx
    | some z => rw [hc] at hx; cases hx; exact ⟨_, rfl, hR.ev z⟩)
  have hcalls := hsp w (args.toList.map a.eval ++ cvs) (by simp [hf2]; simpa using k1) (fun i x hx => by
    by_cases hi : i < args'.length
    · rw [List.getElem?_append_left hi] at hx
      obtain ⟨u, hu, hv⟩ := k2 i x hx
      exact ⟨u, by rw [List.getElem?_append_left (by rw [k1]; exact hi)]; exact hu, hv⟩
    · rw [List.getElem?_append_right (by omega), List.getElem?_map] at hx
      cases hc : cap[i - args'.length]? with
      | none => rw [hc] at hx; cases hx
      | some z =>
        rw [hc] at hx; cases hx
        obtain ⟨u, hu, hp⟩ := hf3 _ z hc
        exact ⟨u, by rw [List.getElem?_append_right (by rw [k1]; omega), k1]; exact hu, PRel.weak (fun _ _ => trivial) hp⟩)
  have hrun : (execOp a.eval o).run P w = .ok (.enter f' (args.toList.map a.eval ++ cvs).toArray) w := by
    have e1 : args.map a.eval ++ cvs.toArray = (args.toList.map a.eval ++ cvs).toArray := by apply Array.ext'; simp
    have hc := run_callFunc (w := w) (args := (args.toList.map a.eval ++ cvs).toArray) hent
    rw [← e1] at hc
    obtain ⟨dst, op, type, pos, after, guard⟩ := o
    simp only at hop
    subst hop
    simp [execOp, resolve, hf1, Deferred.ofValue, invoke, hc, ← e1]
  unfold Oper.wp
  rw [hrun, Oper.upon_enter]
  refine hcalls.mono ?_
  rintro e' w' ⟨u, rfl, hb, h0, xs, h3, h4⟩
  have hF := hR.freshRow hb (v := u) (l := l) (xs := xs) h3 ⟨h4.1, fun i y hy => (h4.2 i y hy).weak fun b hb => ⟨fresh_ok hR hb.1, hb.2⟩⟩
  refine hn _ _ _ (hF.put o.dst (x := .ref S.H.length) ⟨by simp, ?_⟩)
  rw [upd_self]
/-- **A step goes as the rule says.** -/
theorem s_sound (hR : Rl w0 S a w val) {o : Oper} {K : AS → Prop} (h : sstep P S o K) {next : Act → World → Prop} {Q : Exit → Act → World → Prop}
    (hn : ∀ S' a' w' val', K S' → Rl w0 S' a' w' val' → next a' w') : o.wp P a w next Q := by
  have quiet : (∃ v, qval P S o v ∧ K (S.put o.dst v)) → o.wp P a w next Q := fun ⟨v, h1, h2⟩ => q_step hR h1 fun a' w' hR' => hn _ _ _ _ h2 hR'
  unfold sstep at h
  split at h
  · rename_i e x hop
    obtain ⟨cs, h1, h2⟩ := h
    exact box_step hR hop h1 fun a' w' val' hR' => hn _ _ _ _ h2 hR'
  · rename_i e hop
    obtain ⟨cs, h1, h2⟩ := h
    exact alloc_step hR hop h1 fun a' w' val' hR' => hn _ _ _ _ h2 hR'
  · rename_i t p x hop
    split at h
    · rename_i n i hp
      split at h
      · rename_i e cs hH
        obtain ⟨xs, h1, h2, h3, h4⟩ := h
        exact storeBox_step hR hop hp hH h1 h2 h3 fun a' w' val' hR' => hn _ _ _ _ h4 hR'
      · exact h.elim
    · rename_i n i k hp
      split at h
      · rename_i e tt l hH
        obtain ⟨rfl, h1, h2, y, h3, h4⟩ := h
        exact storeRow_step hR hop hp hH h3 h1 h2 fun a' w' val' hR' => hn _ _ _ _ h4 hR'
      · exact h.elim
    · exact h.elim
  · rename_i t len parts hop
    obtain ⟨e, tt, h1, _, h2, l, h3, h4, h5, h6⟩ := h
    exact buildSlice_step hR hop h1 h2 h3 h4 h5 fun a' w' val' hR' => hn _ _ _ _ h6 hR'
  · rename_i t l c hop
    split at h
    · rename_i p q hl hc
      obtain ⟨e, tt, h1, _, h2, h3, h4, h5, h6⟩ := h
      exact make_step hR hop hl hc h1 h2 h3 h4 h5 fun a' w' val' hR' => hn _ _ _ _ h6 hR'
    · exact h.elim
  · rename_i c hop
    obtain ⟨callee, args, ts⟩ := c
    simp only at h
    split at h
    · unfold appStep at h
      split at h
      · rename_i t t' s x hts hxs
        obtain ⟨rfl, h⟩ := h
        have hop' : o.op = .call { callee := .builtin .append, args := #[s, x], argTypes := #[t', t'] } := by
          rw [hop]
          have e1 : args = #[s, x] := by apply Array.ext'; simpa using hxs
          have e2 : ts = #[t', t'] := by apply Array.ext'; simpa using hts
          rw [e1, e2]
        split at h
        · rename_i hs
          obtain ⟨e, tt, h1, _, h2, l2, h3, h4, h5⟩ := h
          exact append_nil_step hR hop' hs h1 h2 h3 h4 fun a' w' val' hR' => hn _ _ _ _ h5 hR'
        · rename_i n hs
          split at h
          · rename_i e tt l hH
            obtain ⟨h1, h2, l2, h3, h4, h5⟩ := h
            exact append_ref hR hop' hs hH h1 h2 h3 h4 fun a' w' val' hR' => hn _ _ _ _ h5 hR'
          · exact h.elim
        · exact h.elim
      · exact h.elim
    · rename_i f
      rcases h with ⟨v, h1, h2⟩ | h
      · exact call_sound hR h1 fun a' w' hR' => hn _ _ _ _ h2 hR'
      · split at h
        · rename_i f' cap ef
          obtain ⟨args', e, tt, l, h1, h2, h3⟩ := h
          exact call_own hR hop ef h1 h2 fun a' w' val' hR' => hn _ _ _ _ h3 hR'
        · exact h.elim
    · exact quiet h
  · exact quiet h
end
end Go.Proofs.Ythogfineaeklpaa.Abs
/- Regions: in the order of the text, and in whatever order. -/
namespace Go.Proofs.Ythogfineaeklpaa.Abs
open Go.RowKit
set_option linter.unusedVariables false

def qstep (P : Program) (S : AS) (o : Oper) (v : AV) : Prop := qval P S o v ∨ qcall P S o v
def gd (S : AS) (ops : List Oper) (o : Oper) : Option Bool :=
  match o.guard with
  | none => some true
  | some (j, want) => (match (ops[j]?).bind (·.dst) with
    | some t => (match S.tm[t]? with
      | some (.bool b) => some (b == want)
      | some .undef => some false
      | _ => none)
    | none => none)
def aseq (P : Program) (ops : List Oper) (Q : AS → Prop) : List Oper → AS → Prop
  | [], S => Q S
  | o :: r, S => (match gd S ops o with
    | some true => sstep P S o (aseq P ops Q r)
    | some false => aseq P ops Q r (S.put o.dst .undef)
    | none => False)
def aqui (P : Program) (ops : List Oper) (Q : AS → Prop) : List Oper → AS → Prop
  | [], S => Q S
  | o :: r, S => (match gd S ops o with
    | some true => ∃ v, qstep P S o v ∧ aqui P ops Q r (S.put o.dst v)
    | some false => aqui P ops Q r (S.put o.dst .undef)
    | none => False)
section
variable {P : Program} {w0 w w1 : World} {S : AS} {a : Act} {val : Nat → Value} {ops : Array Oper}
theorem Rl.getTmp (hR : Rl w0 S a w val) {t : Nat} {x : AV} (h : S.tm[t]? = some x) : ∃ u, a.tmps[t]? = some u ∧ VRel (okB S.H val) w S.H.length val x u := by
  have hlt : t < a.tmps.size := by rw [hR.len]; exact (List.getElem?_eq_some_iff.1 h).1
  refine ⟨a.tmps[t], by simp [hlt], ?_⟩
  have := hR.tmps t
  simpa [List.getD_eq_getElem?_getD, h, hlt] using this
theorem gd_sound (hR : Rl w0 S a w val) {o : Oper} {b : Bool} (h : gd S ops.toList o = some b) : Region.wanted o (yielded ops a.tmps) = b := by
  unfold gd at h
  unfold Region.wanted
  split at h
  · rename_i hg; rw [hg]; cases h; rfl
  · rename_i j want hg
    rw [hg]
    simp only
    unfold yielded
    split at h
    · rename_i t ht
      have ht' : (ops[j]?).bind (·.dst) = some t := by simpa using ht
      rw [ht']
      simp only [Option.bind_some]
      split at h
      · rename_i c hc
        obtain ⟨u, hu, hv⟩ := hR.getTmp hc
        have e : u = .bool c := hv
        subst e
        rw [hu]
        cases h
        cases c <;> cases want <;> rfl
      · rename_i hc
        obtain ⟨u, hu, hv⟩ := hR.getTmp hc
        have e : u = .tuple #[] := hv
        subst e
        rw [hu]
        cases h
        rfl
      · cases h
    · cases h
theorem aseq_sound {K : AS → Prop} {Q : Exit → Act → World → Prop} (hK : ∀ S' a' w' val', K S' → Rl w0 S' a' w' val' → Q .normal a' w') : ∀ (l : List Oper) (k : Nat) (S : AS) (a : Act) (w : World) (val : Nat → Value),
    (∀ j, l[j]? = ops[k + j]?) → aseq P ops.toList K l S → Rl w0 S a w val → wpList P ops Q l a w
  | [], k, S, a, w, val, _, h, hR => hK _ _ _ _ h hR
  | o :: l, k, S, a, w, val, hl, h, hR => by
    have h0 : ops[k]? = some o := by simpa using (hl 0).symm
    have hl' : ∀ j, l[j]? = ops[k + 1 + j]? := fun j => by have := hl (j + 1); simpa [Nat.add_assoc, Nat.add_comm 1 j] using this
    unfold aseq at h
    unfold wpList
    split at h
    · rename_i hg
      have hw := gd_sound hR hg
      rw [hw, if_pos rfl]
      exact .inl (s_sound hR h fun S' a' w' val' h1 h2 => aseq_sound hK l (k + 1) S' a' w' val' hl' h1 h2)
    · rename_i hg
      have hw := gd_sound hR hg
      rw [hw]
      exact aseq_sound hK l (k + 1) _ _ _ _ hl' h (hR.put o.dst rfl)
    · exact h.elim
theorem region_seq {id : Nat} {l : List Oper} {K : AS → Prop} {Q : Exit → Act → World → Prop} (hK : ∀ S' a' w' val', K S' → Rl w0 S' a' w' val' → Q .normal a' w') (h : aseq P l K l S) (hR : Rl w0 S a w val) :
    (Code.region id l.toArray false).wp P Q a w :=
  wp_region_list (aseq_sound (ops := l.toArray) hK l 0 S a w val (fun j => by simp) (by simpa using h) hR)

theorem ev_put {d : Option Tmp} {v : AV} {x : Operand} (h : ∀ t, d = some t → x ≠ .tmp t) : (S.put d v).ev x = S.ev x := by
  cases d with
  | none => rfl
  | some t =>
    cases x with
    | tmp u =>
      have hne : t ≠ u := fun e => h t rfl (e ▸ rfl)
      simp [AS.ev, AS.put, List.getD_eq_getElem?_getD, List.getElem?_set_ne hne]
    | const c => rfl
    | global g => rfl
    | func f => rfl
theorem put_H {d : Option Tmp} {v : AV} : (S.put d v).H = S.H := by cases d <;> rfl
theorem put_comm {x y : Option Tmp} (v u : AV) (h : ∀ d, x = some d → y ≠ some d) : (S.put x v).put y u = (S.put y u).put x v := by
  cases x with
  | none => rfl
  | some d =>
    cases y with
    | none => rfl
    | some e =>
      have hne : d ≠ e := fun he => h d rfl (he ▸ rfl)
      simp [AS.put, List.set_comm _ _ hne]
theorem map_ev_congr {S S' : AS} {l : List Operand} (h : ∀ x ∈ l, S.ev x = S'.ev x) : l.map S.ev = l.map S'.ev := List.map_congr_left h
theorem qval_congr {S S' : AS} {o : Oper} {v : AV} (hH : S.H = S'.H) (h : ∀ x ∈ o.op.operands, S.ev x = S'.ev x) (hq : qval P S o v) : qval P S' o v := by
  obtain ⟨dst, op, type, pos, after, guard⟩ := o
  simp only at h
  unfold qval at hq ⊢
  simp only at hq ⊢
  cases op <;> simp only [Op.operands] at h <;> (try simp only at hq ⊢) <;> (try exact hq)
  case slice t x lo hi mx =>
    cases mx with
    | some m => exact hq
    | none =>
      have hx := h x (by simp)
      have h1 : optI S lo = optI S' lo := by cases lo with
        | none => rfl
        | some y => simp only [optI, h y (by simp)]
      have h2 : optI S hi = optI S' hi := by cases hi with
        | none => rfl
        | some y => simp only [optI, h y (by simp)]
      simp only at hq ⊢
      rw [← hx, ← h1, ← h2]; exact hq
  case makeFunc fn first caps =>
    cases fn <;> simp only at hq ⊢ <;> (try exact hq)
    rw [← map_ev_congr (S := S) (S' := S') fun x hx => h x (by simp; exact .inr (by simpa using hx))]
    exact hq
  case call c =>
    obtain ⟨callee, args, ts⟩ := c
    cases callee <;> simp only at hq ⊢ <;> (try exact hq)
    rename_i b
    have ha : ∀ x ∈ args.toList, S.ev x = S'.ev x := fun x hx => h x (by simp [Call.operands]; simpa using hx)
    unfold qbuiltin at hq ⊢
    cases b <;> simp only at hq ⊢ <;> (try exact hq)
    all_goals
      split at hq
      · rename_i hxs
        rw [hxs] at ha
        first
          | (rw [← ha _ (by simp), ← ha _ (by simp)]; exact hq)
          | (cases hts : ts.toList with
             | nil => rw [hts] at hq; exact hq.elim
             | cons t r => rw [hts] at hq; simp only at hq ⊢; unfold lenAV at hq ⊢; rw [← ha _ (by simp), ← hH]; exact hq)
      · exact hq.elim
  all_goals (first
    | (rw [← h _ (by simp)]; exact hq)
    | (rw [← h _ (by simp), ← h _ (by simp)]; exact hq)
    | (rw [← h _ (by simp), ← hH]; exact hq)
    | (rw [← h _ (by simp), ← h _ (by simp), ← hH]; exact hq)
    | (rw [← h _ (by simp), ← h _ (by simp), ← h _ (by simp)]; exact hq))
theorem argOf_congr {S S' : AS} (hH : S.H = S'.H) (x : AV) : argOf S x = argOf S' x := by
  cases x <;> simp [argOf, hH]
theorem argsOk_congr {S S' : AS} (hH : S.H = S'.H) : ∀ {xs ys : List AV}, argsOk S xs ys → argsOk S' xs ys
  | [], [], h => trivial
  | [], _ :: _, h => h.elim
  | _ :: _, [], h => h.elim
  | x :: xs, y :: ys, h => ⟨by rw [← argOf_congr hH]; exact h.1, argsOk_congr hH h.2⟩
theorem qcall_congr {S S' : AS} {o : Oper} {v : AV} (hH : S.H = S'.H) (h : ∀ x ∈ o.op.operands, S.ev x = S'.ev x) (hq : qcall P S o v) : qcall P S' o v := by
  obtain ⟨dst, op, type, pos, after, guard⟩ := o
  simp only at h
  unfold qcall at hq ⊢
  simp only at hq ⊢
  cases op <;> (try exact hq)
  case call c =>
    obtain ⟨callee, args, ts⟩ := c
    cases callee <;> (try exact hq)
    rename_i f
    simp only at hq ⊢
    have hf := h f (by simp [Op.operands, Call.operands])
    have ha : ∀ x ∈ args.toList, S.ev x = S'.ev x := fun x hx => h x (by simp [Op.operands, Call.operands]; right; simpa using hx)
    rw [← hf, ← map_ev_congr ha]
    split at hq
    · obtain ⟨args', res, h1, h2⟩ := hq
      exact ⟨args', res, argsOk_congr hH h1, h2⟩
    · obtain ⟨args', res, h1, h2⟩ := hq
      exact ⟨args', res, argsOk_congr hH h1, h2⟩
    · exact hq.elim
theorem qstep_congr {S S' : AS} {o : Oper} {v : AV} (hH : S.H = S'.H) (h : ∀ x ∈ o.op.operands, S.ev x = S'.ev x) (hq : qstep P S o v) : qstep P S' o v :=
  hq.imp (qval_congr hH h) (qcall_congr hH h)
theorem ev_of_looks {o : Oper} {d : Option Tmp} {v : AV} (h : ∀ t, d = some t → t ∉ o.looksAt ops) {x : Operand} (hx : x ∈ o.op.operands) : (S.put d v).ev x = S.ev x :=
  ev_put fun t hd hxt => h t hd (by
    subst hxt
    simp only [Oper.looksAt, List.mem_append, List.mem_filterMap]
    exact .inl ⟨_, by simpa using hx, rfl⟩)
theorem gd_put {o : Oper} {d : Option Tmp} {v : AV} (h : ∀ t, d = some t → t ∉ o.looksAt ops) : gd (S.put d v) ops.toList o = gd S ops.toList o := by
  unfold gd
  cases hg : o.guard with
  | none => rfl
  | some g =>
    obtain ⟨j, want⟩ := g
    simp only
    cases hj : (ops.toList[j]?).bind (·.dst) with
    | none => rfl
    | some t =>
      simp only
      have hne : ∀ u, d = some u → u ≠ t := fun u hu e => h u hu (by
        subst e
        simp only [Oper.looksAt, List.mem_append, hg]
        refine .inr ?_
        have : (ops[j]?).bind (·.dst) = some u := by simpa using hj
        simp [this])
      cases d with
      | none => rfl
      | some u => simp only [AS.put]; rw [List.getElem?_set_ne (hne u rfl)]

/-- Operation number i comes up. -/
def qOpA (P : Program) (ops : Array Oper) (i : Nat) (K : AS → Prop) (S : AS) : Prop :=
  match ops[i]? with
  | none => K S
  | some o => (match gd S ops.toList o with
    | some true => ∃ v, qstep P S o v ∧ K (S.put o.dst v)
    | some false => K (S.put o.dst .undef)
    | none => False)
def YA (P : Program) (ops : Array Oper) (o : Oper) (v : AV) (S : AS) : Prop :=
  (gd S ops.toList o = some true ∧ qstep P S o v) ∨ (gd S ops.toList o = some false ∧ v = .undef)
def wpAnyB (P : Program) (ops : Array Oper) (n : Nat) (L : Array Bool → AS → Prop) : Nat → Array Bool → AS → Prop
  | 0, listed, S => L listed S
  | f + 1, listed, S => Region.ready .any ops listed ≠ [] ∧ ∀ i ∈ Region.ready .any ops listed, i < n ∧ qOpA P ops i (wpAnyB P ops n L f (listed.setIfInBounds i true)) S
theorem qOpA_mono {i : Nat} {K K' : AS → Prop} (h : ∀ S, K S → K' S) (hh : qOpA P ops i K S) : qOpA P ops i K' S := by
  unfold qOpA at *
  cases ho : ops[i]? with
  | none => rw [ho] at hh; exact h _ hh
  | some o =>
    rw [ho] at hh
    simp only at hh ⊢
    cases hg : gd S ops.toList o with
    | none => rw [hg] at hh; exact hh
    | some b =>
      rw [hg] at hh
      cases b
      · exact h _ hh
      · obtain ⟨v, h1, h2⟩ := hh; exact ⟨v, h1, h _ h2⟩
theorem YA.op {i : Nat} {o : Oper} {v : AV} (hi : ops[i]? = some o) (hy : YA P ops o v S) {K : AS → Prop} (h : K (S.put o.dst v)) : qOpA P ops i K S := by
  unfold qOpA
  rw [hi]
  simp only
  rcases hy with ⟨h1, h2⟩ | ⟨h1, rfl⟩
  · rw [h1]; exact ⟨v, h2, h⟩
  · rw [h1]; exact h
theorem ya_of {i : Nat} {o : Oper} {K : AS → Prop} (hi : ops[i]? = some o) (h : qOpA P ops i K S) : ∃ v, YA P ops o v S ∧ K (S.put o.dst v) := by
  unfold qOpA at h
  rw [hi] at h
  simp only at h
  cases hg : gd S ops.toList o with
  | none => rw [hg] at h; exact h.elim
  | some b =>
    rw [hg] at h
    cases b
    · exact ⟨.undef, .inr ⟨hg, rfl⟩, h⟩
    · obtain ⟨v, h1, h2⟩ := h; exact ⟨v, .inl ⟨hg, h1⟩, h2⟩
theorem YA.put {o : Oper} {v : AV} (hy : YA P ops o v S) {d : Option Tmp} {u : AV} (h : ∀ t, d = some t → t ∉ o.looksAt ops) : YA P ops o v (S.put d u) := by
  unfold YA at *
  rw [gd_put h]
  exact hy.imp (fun ⟨h1, h2⟩ => ⟨h1, qstep_congr put_H.symm (fun x hx => (ev_of_looks h hx).symm) h2⟩) id
theorem qOpA_put {j : Nat} {oi oj : Oper} {v : AV} (hj : ops[j]? = some oj) (hap : oi.apart ops oj = true) {K : AS → Prop} (hy : YA P ops oi v S) (h : qOpA P ops j K (S.put oi.dst v)) :
    qOpA P ops j (fun S' => YA P ops oi v S' ∧ K (S'.put oi.dst v)) S := by
  obtain ⟨h1, h2, h3⟩ := Oper.apart_spec hap
  obtain ⟨u, hu, hK⟩ := ya_of hj h
  have hu' : YA P ops oj u S := by
    unfold YA at hu ⊢
    rw [gd_put h1] at hu
    exact hu.imp (fun ⟨k1, k2⟩ => ⟨k1, qstep_congr put_H (fun x hx => ev_of_looks h1 hx) k2⟩) id
  exact hu'.op hj ⟨hy.put h3, by rw [← put_comm v u h2]; exact hK⟩
theorem wpAnyB_first {n i : Nat} {oi : Oper} {v : AV} {L : Array Bool → AS → Prop} (Inv : Array Bool → Prop) (hset : ∀ listed j, Inv listed → j ∈ Region.ready .any ops listed → j < n → Inv (listed.setIfInBounds j true))
    (hhead : ∀ listed, Inv listed → i ∈ Region.ready .any ops listed → ∀ j ∈ Region.ready .any ops listed, j < n) (hi : ops[i]? = some oi)
    (hdone : ∀ listed S, L listed S → ∀ j ∈ Region.ready .any ops listed, n ≤ j) :
    ∀ (f : Nat) (listed : Array Bool) (S : AS), Inv listed →
      (∀ j oj, ops[j]? = some oj → j ≠ i → listed.getD j true = false → (∀ e ∈ oj.after, Region.binds .any e = true → e.on ≠ i) → oi.apart ops oj = true) →
      i ∈ Region.ready .any ops listed → YA P ops oi v S →
      wpAnyB P ops n L f (listed.setIfInBounds i true) (S.put oi.dst v) → wpAnyB P ops n L (f + 1) listed S := by
  intro f
  induction f with
  | zero =>
    intro listed S inv _ hr hy H
    refine ⟨fun h => (by rw [h] at hr; cases hr), fun j hj => ?_⟩
    have hjn := hhead listed inv hr j hj
    refine ⟨hjn, ?_⟩
    by_cases hji : j = i
    · subst hji; exact hy.op hi H
    · have := hdone _ _ H j (ready_mono hj hji)
      omega
  | succ f ih =>
    intro listed S inv hfree hr hy H
    have hun := (mem_ready.1 hr).1
    refine ⟨fun h => (by rw [h] at hr; cases hr), fun j hj => ?_⟩
    have hjn := hhead listed inv hr j hj
    refine ⟨hjn, ?_⟩
    by_cases hji : j = i
    · subst hji; exact hy.op hi H
    · have h1 := (H.2 j (ready_mono hj hji)).2
      obtain ⟨hjun, oj, hoj, hall⟩ := mem_ready.1 hj
      have hnot : ∀ e ∈ oj.after, Region.binds .any e = true → e.on ≠ i := fun e he hb heq => by
        have h1 := hall e he hb
        rw [heq, getD_both hun] at h1
        cases h1
      have h2 := qOpA_put hoj (hfree j oj hoj hji hjun hnot) hy h1
      have hfree' : ∀ k ok, ops[k]? = some ok → k ≠ i → (listed.setIfInBounds j true).getD k true = false →
          (∀ e ∈ ok.after, Region.binds .any e = true → e.on ≠ i) → oi.apart ops ok = true := fun k ok hk hki hun hno => by
        refine hfree k ok hk hki ?_ hno
        by_cases hjk : j = k
        · subst hjk; exact hjun
        · rw [getD_set_ne true hjk] at hun; exact hun
      refine qOpA_mono (fun S' h3 => ih (listed.setIfInBounds j true) S' (hset _ _ inv hj hjn) hfree' (ready_mono hr (Ne.symm hji)) h3.1 ?_) h2
      rw [Array.setIfInBounds_comm _ _ hji]
      exact h3.2
theorem wpOp_of_qOpA (hR : Rl w0 S a w val) {i : Nat} {K : AS → Prop} {K' : Act → World → Prop} {Q : Exit → Act → World → Prop} (hn : ∀ S' a' w', K S' → Rl w0 S' a' w' val → K' a' w') (h : qOpA P ops i K S) : wpOp P ops Q i K' a w := by
  unfold qOpA at h
  unfold wpOp
  cases ho : ops[i]? with
  | none => rw [ho] at h; exact hn _ _ _ h hR
  | some o =>
    rw [ho] at h
    simp only at h ⊢
    cases hg : gd S ops.toList o with
    | none => rw [hg] at h; exact h.elim
    | some b =>
      rw [hg] at h
      rw [gd_sound hR hg]
      cases b
      · exact hn _ _ _ h (hR.put o.dst rfl)
      · obtain ⟨v, h1, h2⟩ := h
        refine .inl ?_
        rcases h1 with h1 | h1
        · exact q_step hR h1 fun a' w' hR' => hn _ _ _ h2 hR'
        · exact call_sound hR h1 fun a' w' hR' => hn _ _ _ h2 hR'
theorem wpAny_of_B {n g : Nat} {L : Array Bool → AS → Prop} {Q : Exit → Act → World → Prop} (hL : ∀ listed S a w, L listed S → Rl w0 S a w val → wpAny P .any ops Q g listed a w) :
    ∀ (f : Nat) (listed : Array Bool) (S : AS) (a : Act) (w : World), Rl w0 S a w val → wpAnyB P ops n L f listed S → wpAny P .any ops Q (f + g) listed a w
  | 0, listed, S, a, w, hR, h => by rw [Nat.zero_add]; exact hL _ _ _ _ h hR
  | f + 1, listed, S, a, w, hR, h => by
    rw [show f + 1 + g = (f + g) + 1 by omega]
    exact ⟨fun h0 => absurd h0 h.1, fun i hi => wpOp_of_qOpA hR (fun S' a' w' h' hR' => wpAny_of_B hL f _ S' a' w' hR' h') (h.2 i hi).2⟩
end
end Go.Proofs.Ythogfineaeklpaa.Abs
/- Code: the rules over abstract states, and a function's contract out of them. -/
namespace Go.Proofs.Ythogfineaeklpaa.Abs
open Go.RowKit
set_option linter.unusedVariables false

def lexG (ops : Array Oper) (e : Array Bool → Bool) : Nat → Nat → Array Bool → Bool
  | 0, _, listed => e listed
  | f + 1, k, listed => (Region.ready .any ops listed).contains k && Region.free .any ops listed k && lexG ops e f (k + 1) (listed.setIfInBounds k true)
def anyB (ops : Array Oper) : Bool := lexG ops (fun l => (Region.ready .any ops l).isEmpty) ops.size 0 (Array.replicate ops.size false)
def tailB (ops : Array Oper) (n : Nat) : Bool :=
  decide (n < ops.size) && Region.sinkB .any ops n && Region.chainB .any ops n && lexG ops (fun l => Region.seqB .any ops (ops.size - n) n l) n 0 (Array.replicate ops.size false)

inductive AX where
  | normal
  | exit (id : Nat)
  | ret
  | goto (l : Nat)
def AX.out : AX → Exit
  | .normal => .normal
  | .exit i => .exit i
  | .ret => .ret
  | .goto l => .goto l
/-- What holds behind a piece of code. -/
def CQ (w0 : World) (Q : AX → AS → Prop) (e : Exit) (a : Act) (w : World) : Prop := ∃ x S val, e = AX.out x ∧ Q x S ∧ Rl w0 S a w val
def AWp (P : Program) (c : Code) (Q : AX → AS → Prop) (S : AS) : Prop := ∀ w0 a w val, Rl w0 S a w val → c.wp P (CQ w0 Q) a w
def AX.seqd (K : AS → Prop) (Q : AX → AS → Prop) : AX → AS → Prop
  | .normal, S => K S
  | e, S => Q e S
def AX.blk (id : Nat) (Q : AX → AS → Prop) : AX → AS → Prop
  | .exit i, S => if i = id then Q .normal S else Q (.exit i) S
  | e, S => Q e S
section
variable {P : Program} {Q : AX → AS → Prop} {S : AS}
theorem AWp.mono {c : Code} {Q' : AX → AS → Prop} (h : AWp P c Q S) (hq : ∀ e S, Q e S → Q' e S) : AWp P c Q' S :=
  fun w0 a w val hR => wp_mono (h w0 a w val hR) fun e a' w' ⟨x, S', val', h1, h2, h3⟩ => ⟨x, S', val', h1, hq _ _ h2, h3⟩
theorem AWp.skip (h : Q .normal S) : AWp P .skip Q S := fun w0 a w val hR => wp_skip ⟨.normal, S, val, rfl, h, hR⟩
theorem AWp.exit {id : Nat} (h : Q (.exit id) S) : AWp P (.exit id) Q S := fun w0 a w val hR => wp_exit ⟨.exit id, S, val, rfl, h, hR⟩
theorem AWp.ret (h : Q .ret S) : AWp P .ret Q S := fun w0 a w val hR => wp_ret ⟨.ret, S, val, rfl, h, hR⟩
theorem AWp.label {l : Nat} (h : Q .normal S) : AWp P (.label l) Q S := fun w0 a w val hR => wp_label ⟨.normal, S, val, rfl, h, hR⟩
theorem AWp.seq {x y : Code} (h : ∀ K : AS → Prop, (∀ S', AWp P y Q S' → K S') → AWp P x (AX.seqd K Q) S) : AWp P (.seq x y) Q S :=
  fun w0 a w val hR => wp_seq (wp_mono (h (AWp P y Q) (fun _ h => h) w0 a w val hR) fun e a' w' ⟨x, S', val', h1, h2, h3⟩ => by
    subst h1
    cases x with
    | normal => exact h2 w0 a' w' val' h3
    | exit i => exact ⟨.exit i, S', val', rfl, h2, h3⟩
    | ret => exact ⟨.ret, S', val', rfl, h2, h3⟩
    | goto l => exact ⟨.goto l, S', val', rfl, h2, h3⟩)
theorem AWp.cond {c : Operand} {x y : Code} {t : Bool} (hc : S.ev c = .bool t) (h : AWp P (if t then x else y) Q S) : AWp P (.cond c x y) Q S :=
  fun w0 a w val hR => wp_cond (by have := hR.ev c; rw [hc] at this; exact this) (h w0 a w val hR)
theorem AWp.cond_t {c : Operand} {x y : Code} (hc : S.ev c = .bool true) (h : AWp P x Q S) : AWp P (.cond c x y) Q S := AWp.cond hc h
theorem AWp.cond_f {c : Operand} {x y : Code} (hc : S.ev c = .bool false) (h : AWp P y Q S) : AWp P (.cond c x y) Q S := AWp.cond hc h
theorem AWp.block {id : Nat} {c : Code} (h : AWp P c (AX.blk id Q) S) : AWp P (.block id c) Q S :=
  fun w0 a w val hR => wp_block (wp_mono (h w0 a w val hR) fun e a' w' ⟨x, S', val', h1, h2, h3⟩ => by
    subst h1
    cases x with
    | normal => exact ⟨.normal, S', val', rfl, h2, h3⟩
    | exit i =>
      show (if i = id then CQ w0 Q .normal a' w' else CQ w0 Q (.exit i) a' w')
      simp only [AX.blk] at h2
      by_cases hi : i = id
      · rw [if_pos hi] at h2 ⊢; exact ⟨.normal, S', val', rfl, h2, h3⟩
      · rw [if_neg hi] at h2 ⊢; exact ⟨.exit i, S', val', rfl, h2, h3⟩
    | ret => exact ⟨.ret, S', val', rfl, h2, h3⟩
    | goto l => exact ⟨.goto l, S', val', rfl, h2, h3⟩)
theorem AWp.region {id : Nat} {l : List Oper} (h : aseq P l (Q .normal) l S) : AWp P (.region id l.toArray false) Q S :=
  fun w0 a w val hR => region_seq (fun S' a' w' val' hK hR' => ⟨.normal, S', val', rfl, hK, hR'⟩) h hR
theorem lexB_go {ops : Array Oper} {n : Nat} {Lq : AS → Prop} {e : Array Bool → Bool} (Inv : Array Bool → Prop) (hset : ∀ listed j, Inv listed → j ∈ Region.ready .any ops listed → j < n → Inv (listed.setIfInBounds j true))
    (hhead : ∀ listed i, i < n → Inv listed → i ∈ Region.ready .any ops listed → ∀ j ∈ Region.ready .any ops listed, j < n) (hend : ∀ listed, e listed = true → ∀ j ∈ Region.ready .any ops listed, n ≤ j) :
    ∀ (l : List Oper) (k : Nat) (listed : Array Bool) (S : AS), (∀ j, j < l.length → l[j]? = ops[k + j]?) → k + l.length = n → Inv listed →
    lexG ops e l.length k listed = true → aqui P ops.toList Lq l S → wpAnyB P ops n (fun listed' S' => e listed' = true ∧ Lq S') l.length listed S
  | [], k, listed, S, _, _, _, hB, h => ⟨hB, h⟩
  | o :: l, k, listed, S, hl, hk, inv, hB, h => by
    have h0 : ops[k]? = some o := by simpa using (hl 0 (by simp)).symm
    simp only [List.length_cons, lexG, Bool.and_eq_true] at hB
    obtain ⟨⟨hr, hf⟩, hB'⟩ := hB
    have hkn : k < n := by simp only [List.length_cons] at hk; omega
    have hr' : k ∈ Region.ready .any ops listed := by simpa using hr
    have hst : qOpA P ops k (aqui P ops.toList Lq l) S := by unfold qOpA; rw [h0]; exact h
    obtain ⟨v, hy, hK⟩ := ya_of h0 hst
    exact wpAnyB_first Inv hset (fun listed inv hi => hhead listed k hkn inv hi) h0 (fun listed' S' hL => hend listed' hL.1) l.length listed S inv (Region.free_spec h0 hf) hr' hy
      (lexB_go Inv hset hhead hend l (k + 1) _ _ (fun j hj => by have := hl (j + 1) (by simp; omega); simpa [Nat.add_assoc, Nat.add_comm 1 j] using this) (by simp only [List.length_cons] at hk; omega) (hset _ _ inv hr' hkn) hB' hK)
theorem keep_draw {w0 w : World} {a : Act} {val : Nat → Value} (hR : Rl w0 S a w val) : Rl w0 S a { w with drawn := w.drawn + 1 } val := hR.grow ⟨rfl, rfl, rfl, Nat.le_refl _, fun _ _ => rfl⟩
/-- A region that draws its order, whose operations make no memory of the call's own and write none. -/
theorem AWp.any {id : Nat} {l : List Oper} (hm : P.follows .mixedOrders = true) (hB : anyB l.toArray = true) (h : aqui P l (Q .normal) l S) : AWp P (.region id l.toArray true) Q S := by
  intro w0 a w val hR
  refine wp_region_any hm ?_
  have hsz : l.toArray.size = l.length := rfl
  have H := lexB_go (P := P) (ops := l.toArray) (n := l.length) (Lq := Q .normal) (fun _ => True) (fun _ _ _ _ _ => trivial) (fun listed i _ _ _ j hj => by
      obtain ⟨_, oj, hoj, _⟩ := mem_ready.1 hj
      exact (Array.getElem?_eq_some_iff.1 hoj).1) (e := fun l' => (Region.ready .any l.toArray l').isEmpty) (fun listed he j hj => by
      have he' : Region.ready .any l.toArray listed = [] := by simpa using he
      rw [he'] at hj; cases hj) l 0 _ S (fun j _ => by simp) (by simp) trivial hB (by simpa using h)
  exact wpAny_of_B (g := 0) (Q := CQ w0 Q) (fun listed S' a' w' hL hR' => ⟨by simpa using hL.1, .normal, S', val, rfl, hL.2, hR'⟩) _ _ S a _ (keep_draw hR) H
/-- The same, with operations behind them that may do anything, one behind the other. -/
theorem AWp.tail {id : Nat} {l : List Oper} (n : Nat) (hm : P.follows .mixedOrders = true) (hB : tailB l.toArray n = true) (h : aqui P l (aseq P l (Q .normal) (l.drop n)) (l.take n) S) : AWp P (.region id l.toArray true) Q S := by
  intro w0 a w val hR
  simp only [tailB, Bool.and_eq_true, decide_eq_true_eq] at hB
  obtain ⟨⟨⟨hn, hs⟩, hc⟩, hlex⟩ := hB
  have hn' : n < l.length := by simpa using hn
  have htl : (l.take n).length = n := by simp; omega
  have hdl : (l.drop n).length = l.toArray.size - n := by simp
  have inv0 : HeadInv .any l.toArray n (Array.replicate l.toArray.size false) :=
    ⟨by simp, fun j oj _ hl => (by rw [getD_replicate_false] at hl; cases hl), fun t _ ht => getD_in (by simpa using ht) (getD_replicate_false _ _)⟩
  have H := lexB_go (P := P) (ops := l.toArray) (n := n) (Lq := aseq P l (Q .normal) (l.drop n)) (HeadInv .any l.toArray n) (fun listed j inv hj hjn => inv.set hj hjn) (fun listed i hin inv hi j hj => by
      rcases Nat.lt_or_ge j n with h | h
      · exact h
      · exact absurd hj (tail_waits hs hc hn inv _ i rfl hin (mem_ready.1 hi).1 j h)) (e := fun l' => Region.seqB .any l.toArray (l.toArray.size - n) n l') (fun listed he => seqB_ready he) (l.take n) 0 _ S (fun j hj => by
    have hj' : j < n := by rw [htl] at hj; exact hj
    simp [hj']) (by simpa using htl) inv0 (by rw [htl]; exact hlex) (by simpa using h)
  refine wp_region_any hm ?_
  have := wpAny_of_B (Q := CQ w0 Q) (g := l.toArray.size - n) (fun listed S' a' w' hL hR' => by
    have hseq := aseq_sound (P := P) (w0 := w0) (ops := l.toArray) (K := Q .normal) (Q := CQ w0 Q) (fun S2 a2 w2 val2 hK h2 => ⟨.normal, S2, val2, rfl, hK, h2⟩) (l.drop n) n S' a' w' val (fun j => by simp [List.getElem?_drop]) (by simpa using hL.2) hR'
    have := wpAny_of_seq (md := .any) (Q' := CQ w0 Q) (l.drop n) n listed a' w' (fun j => by simp [List.getElem?_drop]) (by rw [hdl]; exact hL.1) hseq
    rwa [hdl] at this) _ _ S a _ (keep_draw hR) H
  rw [htl, show n + (l.toArray.size - n) = l.toArray.size by omega] at this
  exact this
end
end Go.Proofs.Ythogfineaeklpaa.Abs
/- Loops, forgetting, and contracts of functions. -/
namespace Go.Proofs.Ythogfineaeklpaa.Abs
open Go.RowKit
set_option linter.unusedVariables false

/-- A loop whose relation bears a ghost. -/
theorem wp_loop_ghost {P : Program} {Q : Exit → Act → World → Prop} {a : Act} {w : World} {c : Code} {X : Type} (I : X → Act → World → Prop) (μ : X → Nat) (x0 : X) (h0 : I x0 a w)
    (round : ∀ x a w, I x a w → c.wp P (Exit.then (fun a' w' => ∃ y, I y a' w' ∧ μ y < μ x) Q) a w) : (Code.loop c).wp P Q a w := by
  intro b k cs
  have key : ∀ n x a w, μ x = n → I x a w → ∃ e a' w', Q e a' w' ∧ Arrives P (lone (b.at a (.code c :: .inLoop c :: k)) cs w) b k cs e a' w' := by
    intro n
    induction n using Nat.strongRecOn with
    | _ n ih =>
      intro x a w hn hI
      obtain ⟨e, a₁, w₁, hq, harr⟩ := round x a w hI b (.inLoop c :: k) cs
      cases e with
      | normal =>
        obtain ⟨y, hI₁, hlt⟩ := hq
        obtain ⟨e₂, a₂, w₂, hq₂, harr₂⟩ := ih (μ y) (hn ▸ hlt) y a₁ w₁ rfl hI₁
        exact ⟨e₂, a₂, w₂, hq₂, .of_steps (Steps.trans harr (.one step_inLoop)) harr₂⟩
      | exit id => exact ⟨_, a₁, w₁, hq, .pass (x := .inLoop c) rfl (fun _ _ => .inl (by simp)) harr⟩
      | goto l => exact ⟨_, a₁, w₁, hq, .pass (x := .inLoop c) rfl (fun _ _ => .inl (by simp)) harr⟩
      | ret => exact ⟨_, a₁, w₁, hq, .pass (x := .inLoop c) rfl (fun _ _ => .inl (by simp)) harr⟩
      | panic ch => exact ⟨_, a₁, w₁, hq, .pass (x := .inLoop c) rfl (fun _ _ => .inl (by simp)) harr⟩
      | outgrown => exact ⟨_, a₁, w₁, hq, .pass (x := .inLoop c) rfl (fun _ _ => .inl (by simp)) harr⟩
  obtain ⟨e, a', w', hq, harr⟩ := key _ x0 a w rfl h0
  exact ⟨e, a', w', hq, .of_steps (.one step_loop) harr⟩

def AV.ren (σ : List Nat) : AV → AV
  | .ref n => .ref (σ.getD n 0)
  | .ptr n i => .ptr (σ.getD n 0) i
  | .eptr n i k => .eptr (σ.getD n 0) i k
  | x => x
def AV.lt (N : Nat) : AV → Prop
  | .ref n => n < N
  | .ptr n _ => n < N
  | .eptr n _ _ => n < N
  | .tup _ => False
  | _ => True
/-- Less is known of these values: some are forgotten, the names are others. -/
def weakL (σ : List Nat) : List AV → List AV → Prop
  | [], [] => True
  | x :: xs, y :: ys => (y = .junk ∨ (y.lt σ.length ∧ x = y.ren σ)) ∧ weakL σ xs ys
  | _, _ => False
def blkW (σ : List Nat) (B B' : Blk) : Prop :=
  match B' with
  | .row e t l => B = .row e t l
  | .box e cs' => ∃ cs, B = .box e cs ∧ weakL σ cs cs'
def weakH (σ : List Nat) (H : Hp) : List Nat → Hp → Prop
  | [], [] => True
  | n :: s, B' :: r => (B' = none ∨ ∃ B C, H[n]? = some (some B) ∧ B' = some C ∧ blkW σ B C) ∧ weakH σ H s r
  | _, _ => False
structure Weak (σ : List Nat) (S S' : AS) : Prop where
  nd : σ.Nodup
  tm : weakL σ S.tm S'.tm
  H : weakH σ S.H σ S'.H
theorem weakL_get {σ : List Nat} : ∀ {xs ys : List AV} {i : Nat} {y : AV}, weakL σ xs ys → ys[i]? = some y → ∃ x, xs[i]? = some x ∧ (y = .junk ∨ (y.lt σ.length ∧ x = y.ren σ))
  | [], [], i, y, _, h => by simp at h
  | [], _ :: _, _, _, h, _ => h.elim
  | _ :: _, [], _, _, h, _ => h.elim
  | x :: xs, y' :: ys, i, y, h, hy => by
    cases i with
    | zero => simp at hy; subst hy; exact ⟨x, rfl, h.1⟩
    | succ i => simpa using weakL_get h.2 (by simpa using hy)
theorem weakL_len {σ : List Nat} : ∀ {xs ys : List AV}, weakL σ xs ys → xs.length = ys.length
  | [], [], _ => rfl
  | [], _ :: _, h => h.elim
  | _ :: _, [], h => h.elim
  | x :: xs, y' :: ys, h => by simp [weakL_len h.2]
theorem weakH_get {σ : List Nat} {H : Hp} : ∀ {s : List Nat} {r : Hp} {i : Nat} {C : Blk}, weakH σ H s r → r[i]? = some (some C) → ∃ n B, s[i]? = some n ∧ H[n]? = some (some B) ∧ blkW σ B C
  | [], [], i, C, _, h => by simp at h
  | [], _ :: _, _, _, h, _ => h.elim
  | _ :: _, [], _, _, h, _ => h.elim
  | n :: s, B' :: r, i, C, h, hC => by
    cases i with
    | zero =>
      simp at hC
      subst hC
      rcases h.1 with h1 | ⟨B, C', h1, h2, h3⟩
      · cases h1
      · cases h2; exact ⟨n, B, rfl, h1, h3⟩
    | succ i => simpa using weakH_get h.2 (by simpa using hC)
theorem weakH_len {σ : List Nat} {H : Hp} : ∀ {s : List Nat} {r : Hp}, weakH σ H s r → s.length = r.length
  | [], [], _ => rfl
  | [], _ :: _, h => h.elim
  | _ :: _, [], h => h.elim
  | n :: s, B' :: r, h => by simp [weakH_len h.2]
section
variable {P : Program} {w0 w w1 : World} {S S' : AS} {a : Act} {val : Nat → Value}
def valR (val : Nat → Value) (σ : List Nat) (n : Nat) : Value := val (σ.getD n 0)
theorem vrel_ren {ok ok' : Nat → Prop} {N : Nat} {σ : List Nat} (hk : ∀ b, ok b → ok' b) {x y : AV} {v : Value} (hw : y = .junk ∨ (y.lt σ.length ∧ x = y.ren σ)) (h : VRel ok w N val x v) : VRel ok' w σ.length (valR val σ) y v := by
  rcases hw with rfl | ⟨hlt, rfl⟩
  · trivial
  · cases y with
    | ref n => exact ⟨hlt, h.2⟩
    | ptr n i => obtain ⟨_, g, h1, h2⟩ := h; exact ⟨hlt, g, h1, h2⟩
    | eptr n i k => obtain ⟨_, g, l, c, h1, h2⟩ := h; exact ⟨hlt, g, l, c, h1, h2⟩
    | tup l => exact hlt.elim
    | int x => exact h
    | bool x => exact h
    | str x => exact h
    | u8 x => exact h
    | u64 x => exact h
    | sl t l => exact Rep.weak hk h
    | agg t d => obtain ⟨cs, h1, h2⟩ := h; exact ⟨cs, h1, h2.weak hk⟩
    | iptr t d => exact PRel.weak hk h
    | fn f cap =>
      obtain ⟨vs, h1, h2, h3⟩ := h
      exact ⟨vs, h1, h2, fun i r hr => let ⟨u, hu, hp⟩ := h3 i r hr; ⟨u, hu, PRel.weak hk hp⟩⟩
    | ifn f cap => exact IFRel.weak hk h
    | fn2 g f cap => obtain ⟨p, h1, h2⟩ := h; exact ⟨p, h1, IFRel.weak hk h2⟩
    | nilsl => exact h
    | undef => exact h
    | junk => trivial
theorem Rl.weak {σ : List Nat} (hR : Rl w0 S a w val) (hw : Weak σ S S') : Rl w0 S' a w (valR val σ) := by
  have hlen := weakH_len hw.H
  have src : ∀ {n : Nat} {C : Blk}, S'.H[n]? = some (some C) → ∃ m B, σ[n]? = some m ∧ σ.getD n 0 = m ∧ S.H[m]? = some (some B) ∧ blkW σ B C := fun {n C} hC => by
    obtain ⟨m, B, h1, h2, h3⟩ := weakH_get hw.H hC
    exact ⟨m, B, h1, by simp [List.getD_eq_getElem?_getD, h1], h2, h3⟩
  have hk : ∀ b, okB S.H val b → okB S'.H (valR val σ) b := fun b hb n C hC hg => by
    obtain ⟨m, B, _, h2, h3, _⟩ := src hC
    unfold valR at hg
    rw [h2] at hg
    exact hb m B h3 hg
  refine ⟨hR.below, by rw [hR.len]; exact weakL_len hw.tm, hR.defers, fun t => ?_, fun n C hC => ?_, fun n m C D g hC hD hg hg' => ?_⟩
  · have h := hR.tmps t
    cases ht : S'.tm[t]? with
    | none =>
      have hl := weakL_len hw.tm
      have h1 : S'.tm.length ≤ t := by
        rcases Nat.lt_or_ge t S'.tm.length with h' | h'
        · rw [List.getElem?_eq_getElem h'] at ht; cases ht
        · exact h'
      rw [List.getD_eq_getElem?_getD, List.getElem?_eq_none (by omega)] at h
      rw [List.getD_eq_getElem?_getD, ht]
      exact h
    | some y =>
      obtain ⟨x, hx, hxy⟩ := weakL_get hw.tm ht
      rw [List.getD_eq_getElem?_getD, hx] at h
      rw [List.getD_eq_getElem?_getD, ht, ← hlen]
      exact vrel_ren hk hxy h
  · obtain ⟨m, B, _, h2, h3, h4⟩ := src hC
    have hH := hR.heap m B h3
    unfold blkW at h4
    cases C with
    | row e t l =>
      simp only at h4
      subst h4
      obtain ⟨xs, k1, k2⟩ := hH
      refine ⟨xs, ?_, k2.1, fun i y hy => (k2.2 i y hy).weak hk⟩
      unfold valR
      rw [h2]; exact k1
    | box e cs' =>
      obtain ⟨cs, rfl, h5⟩ := h4
      obtain ⟨g, cur, k1, k2, k3, k4, k5⟩ := hH
      refine ⟨g, cur, by unfold valR; rw [h2]; exact k1, k2, k3, by rw [k4]; exact weakL_len h5, fun i c hc => ?_⟩
      obtain ⟨x, hx, hxy⟩ := weakL_get h5 hc
      obtain ⟨u, hu, ho, hv⟩ := k5 i x hx
      exact ⟨u, hu, ho, by rw [← hlen]; exact vrel_ren hk hxy hv⟩
  · obtain ⟨p, B, a1, a2, a3, _⟩ := src hC
    obtain ⟨q, B', b1, b2, b3, _⟩ := src hD
    unfold valR at hg hg'
    rw [a2] at hg
    rw [b2] at hg'
    have hpq := hR.apart p q B B' g a3 b3 hg hg'
    subst hpq
    have hn : n < σ.length := (List.getElem?_eq_some_iff.1 a1).1
    have hm : m < σ.length := (List.getElem?_eq_some_iff.1 b1).1
    exact (List.getElem_inj (h₀ := hn) (h₁ := hm) hw.nd).1 (by rw [(List.getElem?_eq_some_iff.1 a1).2, (List.getElem?_eq_some_iff.1 b1).2])
end
section
variable {P : Program} {Q : AX → AS → Prop} {S : AS}
theorem AWp.weak {c : Code} {S' : AS} (σ : List Nat) (hw : Weak σ S S') (h : AWp P c Q S') : AWp P c Q S := fun w0 a w val hR => h w0 a w _ (hR.weak hw)
theorem AWp.loop {c : Code} {X : Type} (st : X → AS) (m : X → Nat) (x0 : X) (σ : List Nat) (hw : Weak σ S (st x0))
    (round : ∀ x, AWp P c (AX.seqd (fun S' => ∃ y σ, m y < m x ∧ Weak σ S' (st y)) Q) (st x)) : AWp P (.loop c) Q S := by
  intro w0 a w val hR
  refine wp_loop_ghost (fun x a w => ∃ val, Rl w0 (st x) a w val) m x0 ⟨_, hR.weak hw⟩ fun x a w ⟨val, hR⟩ => ?_
  refine wp_mono (round x w0 a w val hR) fun e a' w' ⟨y, S', val', h1, h2, h3⟩ => ?_
  subst h1
  cases y with
  | normal => obtain ⟨y, σ, h4, h5⟩ := h2; exact ⟨y, ⟨_, h3.weak h5⟩, h4⟩
  | exit i => exact ⟨.exit i, S', val', rfl, h2, h3⟩
  | ret => exact ⟨.ret, S', val', rfl, h2, h3⟩
  | goto l => exact ⟨.goto l, S', val', rfl, h2, h3⟩
end
def Ty.flat : Ty → Bool
  | .sl _ => false
  | .pr a b => a.flat && b.flat
  | .ar _ t => t.flat
  | _ => true
theorem Rep.flat {ok ok' : Nat → Prop} {w w' : World} : ∀ {t : Ty} {x : t.den} {cs : List Value}, t.flat = true → Rep ok w t x cs → Rep ok' w' t x cs
  | .int, _, _, _, h => by unfold Rep at h ⊢; exact h
  | .bool, _, _, _, h => by unfold Rep at h ⊢; exact h
  | .str, _, _, _, h => by unfold Rep at h ⊢; exact h
  | .u64, _, _, _, h => by unfold Rep at h ⊢; exact h
  | .sl t, _, _, hf, _ => by cases hf
  | .pr a b, _, _, hf, h => by
    unfold Rep at h ⊢
    simp only [Ty.flat, Bool.and_eq_true] at hf
    obtain ⟨c1, c2, h1, h2, h3⟩ := h
    exact ⟨c1, c2, h1, h2.flat hf.1, h3.flat hf.2⟩
  | .ar k t, _, _, hf, h => by
    unfold Rep at h ⊢
    simp only [Ty.flat] at hf
    exact ⟨h.1, h.2.1, fun i y hy => (h.2.2 i y hy).flat hf⟩
/-- What a function hands back. -/
def resV (S : AS) (x : AV) : Res → Prop
  | .im t y => t.flat = true ∧ unInj t x = some y
  | .own e t l => t.flat = true ∧ (match x with
    | .ref n => S.H[n]? = some (some (.row e t l))
    | .nilsl => l = []
    | _ => False)
section
variable {P : Program} {w0 w w1 : World} {S : AS} {a : Act} {val : Nat → Value}
theorem res_ok (hR : Rl w0 S a w val) {x : AV} {v : Value} {r : Res} {ok : Nat → Prop} (hv : VRel (okB S.H val) w S.H.length val x v) (h : resV S x r)
    (hok : ∀ n B g, x = .ref n → S.H[n]? = some (some B) → ownB (val n) = some g → ok g) : ResRel ok w0.heap.size w r v := by
  cases r with
  | im t y =>
    obtain ⟨hf, hu⟩ := h
    obtain ⟨h1, _⟩ := unInj_rep hu hv
    show IRel ok w t y v
    unfold IRel at h1 ⊢
    split
    · rename_i hp; rw [if_pos hp] at h1; obtain ⟨cs, h2, h3⟩ := h1; exact ⟨cs, h2, h3.flat hf⟩
    · rename_i hp; rw [if_neg hp] at h1; exact h1.flat hf
  | own e t l =>
    obtain ⟨hf, hu⟩ := h
    split at hu
    · rename_i n
      obtain ⟨xs, h1, h2⟩ := hR.heap n _ hu
      rw [hv.2]
      exact ⟨fun g hg => hok n _ g rfl hu hg, xs, h1, h2.1, fun i y hy => (h2.2 i y hy).flat hf⟩
    · subst hu
      have e' : v = .slice none 0 0 := hv
      subst e'
      exact ⟨fun g hg => (by cases hg), [], World.ownsRow_nil w _ e t.n, by simp, fun i y hy => by simp at hy⟩
    · exact hu.elim
theorem entry {f : FuncId} {fn : Func} {c : Code} {args : List AV} {vs : List Value} {w : World} (hl : vs.length = args.length) (hv : ∀ (i : Nat) (x : AV), args[i]? = some x → ∃ v, vs[i]? = some v ∧ ArgRel w x v) (hnt : args.length ≤ fn.ntmps) :
    Rl w ⟨args ++ List.replicate (fn.ntmps - args.length) .undef, []⟩ { tmps := vs.toArray ++ Array.replicate (fn.ntmps - vs.toArray.size) undef, defers := [] } w (fun _ => undef) := by
  refine ⟨Below.refl _ _, by simp [hl], rfl, fun t => ?_, fun n B h => by simp at h, fun n m B C g h => by simp at h⟩
  rw [List.getD_eq_getElem?_getD, Array.getD_eq_getD_getElem?]
  by_cases ht : t < args.length
  · obtain ⟨v, hv1, hv2⟩ := hv t args[t] (by simp [ht])
    rw [List.getElem?_append_left ht, List.getElem?_eq_getElem ht, Array.getElem?_append_left (by simp; omega)]
    simp only [Option.getD_some]
    rw [show vs.toArray[t]? = some v by simpa using hv1]
    refine VRel.keep ⟨Nat.le_refl _, fun b _ _ => ⟨fun n B h => by simp at h, rfl⟩, Nat.le_refl _, fun _ _ => rfl⟩ hv2
  · rw [List.getElem?_append_right (by omega), Array.getElem?_append_right (by simp; omega)]
    by_cases h2 : t - args.length < fn.ntmps - args.length
    · rw [List.getElem?_replicate, if_pos h2, Array.getElem?_replicate, if_pos (by simp; omega)]
      rfl
    · rw [List.getElem?_replicate, if_neg h2, Array.getElem?_replicate, if_neg (by simp; omega)]
      rfl
theorem Spec.of1 {f : FuncId} {fn : Func} {c : Code} {args : List AV} {t : Tmp} {r : Res} (hf : P.funcs[f]? = some fn) (hb : fn.body = some c) (hname : (fn.name != "runtime.NumGoroutine") = true) (hnt : args.length ≤ fn.ntmps) (hres : fn.results = #[.tmp t])
    (h : AWp P c (fun e S => (e = .normal ∨ e = .ret) ∧ resV S (S.tm.getD t .undef) r) ⟨args ++ List.replicate (fn.ntmps - args.length) .undef, []⟩) : Spec P f args [r] := by
  refine ⟨by simp [enters, hf, hb]; simpa using hname, fun w vs hl hv => ?_⟩
  have hE := entry (f := f) (fn := fn) (c := c) hl hv hnt
  refine calls_of_wp hf hb (wp_mono (h w _ w _ hE) ?_)
  rintro e a w' ⟨x, S, val, rfl, ⟨hx, hr⟩, hR⟩
  have hpost : a.defers = [] ∧ ∃ v, (results fn a.tmps).run P w' = .ok v w' ∧ SpecPost [r] w (.returned v) w' :=
    ⟨hR.defers, _, results_tmp hres _ _ _, _, rfl, hR.below, res_ok hR (hR.tmps t) hr fun n B g _ hB hg => (own_lt hR hB hg).2⟩
  rcases hx with rfl | rfl
  · exact hpost
  · exact hpost
theorem Spec.of2 {f : FuncId} {fn : Func} {c : Code} {args : List AV} {t u : Tmp} {r1 r2 : Res} (hf : P.funcs[f]? = some fn) (hb : fn.body = some c) (hname : (fn.name != "runtime.NumGoroutine") = true) (hnt : args.length ≤ fn.ntmps)
    (hres : fn.results = #[.tmp t, .tmp u])
    (h : AWp P c (fun e S => (e = .normal ∨ e = .ret) ∧ resV S (S.tm.getD t .undef) r1 ∧ resV S (S.tm.getD u .undef) r2 ∧ (∀ n, S.tm.getD t .undef = .ref n → S.tm.getD u .undef ≠ .ref n)) ⟨args ++ List.replicate (fn.ntmps - args.length) .undef, []⟩) :
    Spec P f args [r1, r2] := by
  refine ⟨by simp [enters, hf, hb]; simpa using hname, fun w vs hl hv => ?_⟩
  have hE := entry (f := f) (fn := fn) (c := c) hl hv hnt
  refine calls_of_wp hf hb (wp_mono (h w _ w _ hE) ?_)
  rintro e a w' ⟨x, S, val, rfl, ⟨hx, hr1, hr2, hne⟩, hR⟩
  have hown : ∀ {x : AV} {v : Value} {r : Res} {g : Nat}, VRel (okB S.H val) w' S.H.length val x v → resV S x r → r.isOwn = true → ownB v = some g → ∃ n B, x = .ref n ∧ S.H[n]? = some (some B) ∧ ownB (val n) = some g := by
    intro x v r g hv hr hi hg
    cases r with
    | im t y => cases hi
    | own e t l =>
      obtain ⟨_, hr⟩ := hr
      split at hr
      · rename_i n; exact ⟨n, _, rfl, hr, by rw [← hv.2]; exact hg⟩
      · have e' : v = .slice none 0 0 := hv
        subst e'; cases hg
      · exact hr.elim
  have hpost : a.defers = [] ∧ ∃ v, (results fn a.tmps).run P w' = .ok v w' ∧ SpecPost [r1, r2] w (.returned v) w' := by
    refine ⟨hR.defers, _, results_tmp2 hres _ _ _, _, rfl, hR.below, [a.tmps.getD t undef, a.tmps.getD u undef], rfl, rfl, fun i r hi => ?_⟩
    match i, hi with
    | 0, hi =>
      cases hi
      refine ⟨_, rfl, res_ok hR (hR.tmps t) hr1 fun n B g hx hB hg => ⟨(own_lt hR hB hg).2, fun j r' u' hj hr' hio hu' hou => ?_⟩⟩
      match j, hj, hr', hu' with
      | 1, _, hr', hu' =>
        cases hr'; cases hu'
        obtain ⟨m, C, h1, h2, h3⟩ := hown (hR.tmps u) hr2 hio hou
        have := hR.apart n m B C g hB h2 hg h3
        subst this
        exact hne n hx h1
      | j + 2, _, hr', _ => simp at hr'
    | 1, hi =>
      cases hi
      refine ⟨_, rfl, res_ok hR (hR.tmps u) hr2 fun n B g hx hB hg => ⟨(own_lt hR hB hg).2, fun j r' u' hj hr' hio hu' hou => ?_⟩⟩
      match j, hj, hr', hu' with
      | 0, _, hr', hu' =>
        cases hr'; cases hu'
        obtain ⟨m, C, h1, h2, h3⟩ := hown (hR.tmps t) hr1 hio hou
        have := hR.apart m n C B g h2 hB h3 hg
        subst this
        exact hne m h1 hx
      | 1, hj, _, _ => exact (hj rfl).elim
      | j + 2, _, hr', _ => simp at hr'
    | i + 2, hi => simp at hi
  rcases hx with rfl | rfl
  · exact hpost
  · exact hpost
end
end Go.Proofs.Ythogfineaeklpaa.Abs
/- Two arrays of two numbers compared. -/
namespace Go.Proofs.Ythogfineaeklpaa.M
open Go.RowKit Abs
set_option linter.unusedSimpArgs false
set_option linter.unusedVariables false
set_option maxRecDepth 100000
set_option maxHeartbeats 4000000
theorem int_agg {P : Program} {e : TypeId} {k : IntKind} (h : P.underlying e = some (.int k)) : isAggB P e = some false := by unfold isAggB; rw [h]
theorem run_part {P : Program} {w : World} {e : TypeId} {cs : Array Value} {i : Nat} {v : Value} (h : isAggB P e = some false) (hv : cs[i]? = some v) : (part e cs i).run P w = .ok v w := by
  simp only [part, Sem.run_bind, run_agg h, Result.andThen_ok, Bool.false_eq_true, if_false, hv]
  simp
theorem run_eq2 {P : Program} {w : World} {t e : TypeId} {k : IntKind} (ht : arElem P t = some (2, e)) (he : P.underlying e = some (.int k)) (hs : szOf P e = some 1) (a b c d : Int) :
    (Op.equalIn 10000 t (.agg #[.int .i64 a, .int .i64 b]) (.agg #[.int .i64 c, .int .i64 d])).run P w = .ok (a == c && b == d) w := by
  have hg := int_agg he
  have q0 : ∀ (a b : Int) (w : World), (part e #[.int .i64 a, .int .i64 b] 0).run P w = .ok (.int .i64 a) w := fun a b w => run_part hg rfl
  have q1 : ∀ (a b : Int) (w : World), (part e #[.int .i64 a, .int .i64 b] 1).run P w = .ok (.int .i64 b) w := fun a b w => run_part hg rfl
  have h3 : ∀ (u v : Int) (w : World), (Op.equalIn 9999 e (.int .i64 u) (.int .i64 v)).run P w = .ok (u == v) w := fun u v w => run_equalIn_int w 9998 e .i64 k u v he
  rw [show (10000 : Nat) = 9999 + 1 from rfl, Op.equalIn]
  simp only [Sem.run_bind, run_underlying (arElem_und ht), Result.andThen_ok, run_sz hs]
  simp only [Std.Legacy.Range.forIn_eq_forIn_range', Std.Legacy.Range.size, Nat.sub_zero, Nat.add_sub_cancel, Nat.div_one, List.range'_succ, List.range'_zero, List.forIn_cons, List.forIn_nil]
  simp only [Sem.run_bind, Nat.zero_mul, Nat.mul_one, Nat.zero_add, q0, q1, Result.andThen_ok, h3]
  by_cases h1 : a = c <;> by_cases h2 : b = d <;> simp [h1, h2, q0, q1, h3]
theorem run_guard2 {P : Program} {w : World} {t e : TypeId} {k : IntKind} (op : BinOp) (x y : Operand) (ht : arElem P t = some (2, e)) (he : P.underlying e = some (.int k)) (hs : szOf P e = some 1) (a b c d : Int) :
    (eqGuard op t x y (.agg #[.int .i64 a, .int .i64 b]) (.agg #[.int .i64 c, .int .i64 d])).run P w = .ok () w := by
  have hg := int_agg he
  have q0 : ∀ (a b : Int) (w : World), (part e #[.int .i64 a, .int .i64 b] 0).run P w = .ok (.int .i64 a) w := fun a b w => run_part hg rfl
  have q1 : ∀ (a b : Int) (w : World), (part e #[.int .i64 a, .int .i64 b] 1).run P w = .ok (.int .i64 b) w := fun a b w => run_part hg rfl
  cases hm : P.eqGuardType P.depth t with
  | false => exact run_eqGuard_agg w op t x y _ _ hm
  | true =>
    have h1 : (Op.eqGuardIn Op.maxDepth t (.agg #[.int .i64 a, .int .i64 b]) (.agg #[.int .i64 c, .int .i64 d])).run P w = .ok false w := by
      unfold Op.maxDepth
      rw [show (10000 : Nat) = 9999 + 1 from rfl, Op.eqGuardIn]
      simp only [Sem.run_bind, run_underlying (arElem_und ht), Result.andThen_ok, run_sz hs]
      simp only [Std.Legacy.Range.forIn_eq_forIn_range', Std.Legacy.Range.size, Nat.sub_zero, Nat.add_sub_cancel, Nat.div_one, List.range'_succ, List.range'_zero, List.forIn_cons, List.forIn_nil]
      have h2 : ∀ (u v : Int) (w : World), (Op.eqGuardIn 9999 e (.int .i64 u) (.int .i64 v)).run P w = .ok false w := fun u v w => by
        rw [show (9999 : Nat) = 9998 + 1 from rfl, Op.eqGuardIn]
        simp [Sem.run_bind, run_underlying he]
      simp only [Sem.run_bind, Nat.zero_mul, Nat.mul_one, Nat.zero_add, q0, q1, Result.andThen_ok, h2]
      simp [q1, h2]
    cases op <;> simp [eqGuard, run_program, hm, h1]
theorem run_cmp2 {P : Program} {w : World} {t e : TypeId} {k : IntKind} (x y : Operand) (ht : arElem P t = some (2, e)) (he : P.underlying e = some (.int k)) (hs : szOf P e = some 1) (p q : Int × Int) :
    ((do eqGuard .eql t x y (.agg #[.int .i64 p.1, .int .i64 p.2]) (.agg #[.int .i64 q.1, .int .i64 q.2]); binOp .eql t (.agg #[.int .i64 p.1, .int .i64 p.2]) (.agg #[.int .i64 q.1, .int .i64 q.2]) : Sem Value)).run P w = .ok (.bool (decide (p = q))) w ∧
    ((do eqGuard .neq t x y (.agg #[.int .i64 p.1, .int .i64 p.2]) (.agg #[.int .i64 q.1, .int .i64 q.2]); binOp .neq t (.agg #[.int .i64 p.1, .int .i64 p.2]) (.agg #[.int .i64 q.1, .int .i64 q.2]) : Sem Value)).run P w = .ok (.bool (!decide (p = q))) w := by
  have e : decide (p = q) = (p.1 == q.1 && p.2 == q.2) := by
    obtain ⟨a, b⟩ := p
    obtain ⟨c, d⟩ := q
    by_cases h1 : a = c <;> by_cases h2 : b = d <;> simp [h1, h2]
  refine ⟨?_, ?_⟩
  · simp only [Sem.run_bind, run_guard2 _ x y ht he hs, Result.andThen_ok, run_eql_struct, run_eq2 ht he hs, e]
  · simp only [Sem.run_bind, run_guard2 _ x y ht he hs, Result.andThen_ok, run_neq_struct, run_eq2 ht he hs, e]
theorem pair_cells {ok : Nat → Prop} {w : World} {p : Int × Int} {cs : List Value} (h : Rep ok w (.pr .int .int) p cs) : cs = [.int .i64 p.1, .int .i64 p.2] := by
  unfold Rep at h
  obtain ⟨c1, c2, rfl, h1, h2⟩ := h
  unfold Rep at h1 h2
  subst h1 h2
  rfl
end Go.Proofs.Ythogfineaeklpaa.M

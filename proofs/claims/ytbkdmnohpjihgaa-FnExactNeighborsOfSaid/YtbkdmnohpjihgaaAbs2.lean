/- Abstract values, abstract memory, and how they stand to the world. -/
import Derived.Test.YtbkdmnohpjihgaaAbs1
namespace Go.Proofs.Ytbkdmnohpjihgaa.Abs
open Go.RowKit
set_option linter.unusedVariables false

abbrev TV := (t : Ty) × t.den
inductive RA where
  | v (t : Ty) (x : t.den)
  | r (n : Nat)
inductive AV where
  | int (x : Int) | bool (b : Bool) | str (s : ByteArray) | u8 (x : Int) | u64 (x : Int)
  | sl (t : Ty) (l : List t.den)
  | agg (t : Ty) (x : t.den)
  | ref (n : Nat)
  | ptr (n i : Nat)
  | eptr (n i k : Nat)
  | iptr (t : Ty) (x : t.den)
  | tup (l : List RA)
  | fn (f : FuncId) (cap : List TV)
  | ifn (f : FuncId) (cap : List TV)
  | fn2 (g f : FuncId) (cap : List TV)
  | nilsl | undef | junk
def inj : (t : Ty) → t.den → AV
  | .int, x => .int x
  | .bool, x => .bool x
  | .str, x => .str x
  | .sl t, l => .sl t l
  | .pr a b, x => .agg (.pr a b) x
def Ty.isPr : Ty → Bool
  | .pr _ _ => true
  | _ => false
def RA.av : RA → AV
  | .v t x => inj t x
  | .r n => .ref n
inductive Blk where
  | row (e : TypeId) (t : Ty) (l : List t.den)
  | box (e : TypeId) (cs : List AV)
abbrev Hp := List (Option Blk)
structure AS where
  tm : List AV
  H : Hp

def ownB : Value → Option Nat
  | .slice (some a) _ _ => some a.block
  | .pointer (some a) => some a.block
  | _ => none
def okB (H : Hp) (val : Nat → Value) (b : Nat) : Prop := ∀ n B, H[n]? = some (some B) → ownB (val n) ≠ some b

/-- An immutable place. -/
def PRel (ok : Nat → Prop) (w : World) (t : Ty) (x : t.den) (v : Value) : Prop :=
  ∃ b o cs, v = .pointer (some ⟨b, o, none⟩) ∧ ok b ∧ b < w.heap.size ∧ Rep ok w t x cs ∧ ∀ j u, cs[j]? = some u → w.cell? ⟨b, o + j, none⟩ = some u
def IRel (ok : Nat → Prop) (w : World) (t : Ty) (x : t.den) (v : Value) : Prop :=
  if t.isPr then ∃ cs : List Value, v = .agg cs.toArray ∧ Rep ok w t x cs else Rep ok w t x [v]
def RRel (ok : Nat → Prop) (w : World) (N : Nat) (val : Nat → Value) : RA → Value → Prop
  | .v t x, u => IRel ok w t x u
  | .r n, u => n < N ∧ u = val n
/-- A variable that holds a function and is written no more. -/
def IFRel (ok : Nat → Prop) (w : World) (f : FuncId) (cap : List TV) (v : Value) : Prop :=
  ∃ (b : Nat) (u : Value), v = .pointer (some ⟨b, 0, none⟩) ∧ ok b ∧ b < w.heap.size ∧ w.cell? ⟨b, 0, none⟩ = some u ∧
    ∃ vs : List Value, u = .func (.func f) #[] vs.toArray ∧ vs.length = cap.length ∧ ∀ (i : Nat) (c : TV), cap[i]? = some c → ∃ u, vs[i]? = some u ∧ PRel ok w c.1 c.2 u
def VRel (ok : Nat → Prop) (w : World) (N : Nat) (val : Nat → Value) : AV → Value → Prop
  | .int x, v => v = .int .i64 x
  | .bool b, v => v = .bool b
  | .str s, v => v = .string s
  | .u8 x, v => v = .int .u8 x
  | .u64 x, v => v = .int .u64 x
  | .sl t l, v => Rep ok w (.sl t) l [v]
  | .agg t x, v => ∃ cs : List Value, v = .agg cs.toArray ∧ Rep ok w t x cs
  | .ref n, v => n < N ∧ v = val n
  | .ptr n i, v => n < N ∧ ∃ g, val n = .pointer (some ⟨g, 0, none⟩) ∧ v = .pointer (some ⟨g, i, none⟩)
  | .eptr n i k, v => n < N ∧ ∃ g len cap, val n = .slice (some ⟨g, 0, none⟩) len cap ∧ v = .pointer (some ⟨g, i * k, none⟩)
  | .iptr t x, v => PRel ok w t x v
  | .tup l, v => ∃ vs : List Value, v = .tuple vs.toArray ∧ vs.length = l.length ∧ ∀ (i : Nat) (r : RA), l[i]? = some r → ∃ u, vs[i]? = some u ∧ RRel ok w N val r u
  | .fn f cap, v => ∃ vs : List Value, v = .func (.func f) #[] vs.toArray ∧ vs.length = cap.length ∧ ∀ (i : Nat) (c : TV), cap[i]? = some c → ∃ u, vs[i]? = some u ∧ PRel ok w c.1 c.2 u
  | .ifn f cap, v => IFRel ok w f cap v
  | .fn2 g f cap, v => ∃ p, v = .func (.func g) #[] #[p] ∧ IFRel ok w f cap p
  | .nilsl, v => v = .slice none 0 0
  | .undef, v => v = .tuple #[]
  | .junk, _ => True

/-- What is read stays as it is. -/
structure Keep (ok ok' : Nat → Prop) (w w' : World) (N N' : Nat) (val val' : Nat → Value) : Prop where
  size : w.heap.size ≤ w'.heap.size
  ok : ∀ b, ok b → b < w.heap.size → ok' b ∧ w'.heap[b]? = w.heap[b]?
  le : N ≤ N'
  val : ∀ n, n < N → val' n = val n
section
variable {ok ok' : Nat → Prop} {w w' : World} {N N' : Nat} {val val' : Nat → Value}
theorem PRel.keep (K : Keep ok ok' w w' N N' val val') {t : Ty} {x : t.den} {v : Value} (h : PRel ok w t x v) : PRel ok' w' t x v := by
  obtain ⟨b, o, cs, h1, h2, h3, h4, h5⟩ := h
  obtain ⟨k1, k2⟩ := K.ok b h2 h3
  exact ⟨b, o, cs, h1, k1, Nat.lt_of_lt_of_le h3 K.size, h4.mono K.size K.ok, fun j u hu => (World.cell?_of_block (a := ⟨b, o + j, none⟩) k2).trans (h5 j u hu)⟩
theorem IFRel.keep (K : Keep ok ok' w w' N N' val val') {f : FuncId} {cap : List TV} {v : Value} (h : IFRel ok w f cap v) : IFRel ok' w' f cap v := by
  obtain ⟨b, u, h1, h2, h3, h4, vs, h5, h6, h7⟩ := h
  obtain ⟨k1, k2⟩ := K.ok b h2 h3
  exact ⟨b, u, h1, k1, Nat.lt_of_lt_of_le h3 K.size, (World.cell?_of_block (a := ⟨b, 0, none⟩) k2).trans h4, vs, h5, h6, fun i c hc => let ⟨u, hu, hR⟩ := h7 i c hc; ⟨u, hu, hR.keep K⟩⟩
theorem IRel.keep (K : Keep ok ok' w w' N N' val val') {t : Ty} {x : t.den} {v : Value} (h : IRel ok w t x v) : IRel ok' w' t x v := by
  unfold IRel at h ⊢
  split
  · rename_i ht
    rw [if_pos ht] at h
    obtain ⟨cs, h1, h2⟩ := h
    exact ⟨cs, h1, h2.mono K.size K.ok⟩
  · rename_i ht
    rw [if_neg ht] at h
    exact h.mono K.size K.ok
theorem RRel.keep (K : Keep ok ok' w w' N N' val val') {r : RA} {v : Value} (h : RRel ok w N val r v) : RRel ok' w' N' val' r v := by
  cases r with
  | v t x => exact IRel.keep K h
  | r n => exact ⟨Nat.lt_of_lt_of_le h.1 K.le, by rw [K.val n h.1]; exact h.2⟩
theorem VRel.keep (K : Keep ok ok' w w' N N' val val') {x : AV} {v : Value} (h : VRel ok w N val x v) : VRel ok' w' N' val' x v := by
  cases x with
  | int x => exact h
  | bool b => exact h
  | str s => exact h
  | u8 x => exact h
  | u64 x => exact h
  | sl t l => exact Rep.mono K.size K.ok h
  | agg t x => obtain ⟨cs, h1, h2⟩ := h; exact ⟨cs, h1, h2.mono K.size K.ok⟩
  | ref n => exact ⟨Nat.lt_of_lt_of_le h.1 K.le, by rw [K.val n h.1]; exact h.2⟩
  | ptr n i => obtain ⟨h0, g, h1, h2⟩ := h; exact ⟨Nat.lt_of_lt_of_le h0 K.le, g, by rw [K.val n h0]; exact h1, h2⟩
  | eptr n i k => obtain ⟨h0, g, l, c, h1, h2⟩ := h; exact ⟨Nat.lt_of_lt_of_le h0 K.le, g, l, c, by rw [K.val n h0]; exact h1, h2⟩
  | iptr t x => exact PRel.keep K h
  | tup l =>
    obtain ⟨vs, h1, h2, h3⟩ := h
    exact ⟨vs, h1, h2, fun i r hr => let ⟨u, hu, hR⟩ := h3 i r hr; ⟨u, hu, hR.keep K⟩⟩
  | fn f cap =>
    obtain ⟨vs, h1, h2, h3⟩ := h
    exact ⟨vs, h1, h2, fun i r hr => let ⟨u, hu, hR⟩ := h3 i r hr; ⟨u, hu, hR.keep K⟩⟩
  | ifn f cap => exact IFRel.keep K h
  | fn2 g f cap => obtain ⟨p, h1, h2⟩ := h; exact ⟨p, h1, IFRel.keep K h2⟩
  | nilsl => exact h
  | undef => exact h
  | junk => trivial
end

def RepL (ok : Nat → Prop) (w : World) (t : Ty) (l : List t.den) (xs : List Value) : Prop :=
  xs.length = l.length * t.n ∧ ∀ (i : Nat) (y : t.den), l[i]? = some y → Rep ok w t y ((xs.drop (i * t.n)).take t.n)
def BRel (base : Nat) (ok : Nat → Prop) (w : World) (N : Nat) (val : Nat → Value) (n : Nat) : Blk → Prop
  | .row e t l => ∃ xs, w.ownsRow base e t.n (val n) l.length xs ∧ RepL ok w t l xs
  | .box e cs => ∃ g cur, val n = .pointer (some ⟨g, 0, none⟩) ∧ base ≤ g ∧ w.heap[g]? = some (.cells cur e (0, 0)) ∧ cur.size = cs.length ∧
      ∀ (i : Nat) (c : AV), cs[i]? = some c → ∃ u, cur[i]? = some u ∧ u.oneCell' = true ∧ VRel ok w N val c u
structure Rl (w0 : World) (S : AS) (a : Act) (w : World) (val : Nat → Value) : Prop where
  below : Below w0.heap.size w0 w
  len : a.tmps.size = S.tm.length
  defers : a.defers = []
  tmps : ∀ t, VRel (okB S.H val) w S.H.length val (S.tm.getD t .undef) (a.tmps.getD t undef)
  heap : ∀ n B, S.H[n]? = some (some B) → BRel w0.heap.size (okB S.H val) w S.H.length val n B
  apart : ∀ n m B C g, S.H[n]? = some (some B) → S.H[m]? = some (some C) → ownB (val n) = some g → ownB (val m) = some g → n = m

/-- Only the tape has moved on. -/
theorem keep_drawn (ok : Nat → Prop) (w : World) (N : Nat) (val : Nat → Value) (d : Nat) : Keep ok ok w { w with drawn := d } N N val val :=
  ⟨Nat.le_refl _, fun b h _ => ⟨h, rfl⟩, Nat.le_refl _, fun _ _ => rfl⟩
theorem ownsRow_heap {w w' : World} {base : Nat} {e : TypeId} {k : Nat} {v : Value} {n : Nat} {xs : List Value} (h : w.ownsRow base e k v n xs)
    (hh : ∀ g, ownB v = some g → w'.heap[g]? = w.heap[g]?) : w'.ownsRow base e k v n xs := by
  refine ⟨h.1, ?_⟩
  rcases h.2 with h2 | ⟨g, cap, cur, hv, hb, hg, r⟩
  · exact .inl h2
  · exact .inr ⟨g, cap, cur, hv, hb, by rw [hh g (by rw [hv]; rfl)]; exact hg, r⟩
theorem BRel.keep {base : Nat} {ok ok' : Nat → Prop} {w w' : World} {N N' : Nat} {val val' : Nat → Value} (K : Keep ok ok' w w' N N' val val') {n : Nat} (hn : n < N) {B : Blk}
    (hh : ∀ g, ownB (val n) = some g → w'.heap[g]? = w.heap[g]?) (h : BRel base ok w N val n B) : BRel base ok' w' N' val' n B := by
  cases B with
  | row e t l =>
    obtain ⟨xs, h1, h2, h3⟩ := h
    refine ⟨xs, ?_, h2, fun i y hy => (h3 i y hy).mono K.size K.ok⟩
    rw [K.val n hn]
    exact ownsRow_heap h1 hh
  | box e cs =>
    obtain ⟨g, cur, h1, h2, h3, h4, h5⟩ := h
    refine ⟨g, cur, by rw [K.val n hn]; exact h1, h2, by rw [hh g (by rw [h1]; rfl)]; exact h3, h4, fun i c hc => ?_⟩
    obtain ⟨u, hu, ho, hv⟩ := h5 i c hc
    exact ⟨u, hu, ho, hv.keep K⟩
theorem lt_of_some {H : Hp} {n : Nat} {B : Blk} (h : H[n]? = some (some B)) : n < H.length := (List.getElem?_eq_some_iff.1 h).1
/-- Same abstract memory: the world has grown, old blocks are as they were. -/
theorem Rl.grow {w0 w w' : World} {S : AS} {a : Act} {val : Nat → Value} (h : Rl w0 S a w val) (hb : Below w.heap.size w w') : Rl w0 S a w' val := by
  have K : Keep (okB S.H val) (okB S.H val) w w' S.H.length S.H.length val val := ⟨hb.size, fun b hk hlt => ⟨hk, hb.block b hlt⟩, Nat.le_refl _, fun _ _ => rfl⟩
  refine ⟨h.below.trans (hb.mono h.below.size), h.len, h.defers, fun t => (h.tmps t).keep K, fun n B hB => ?_, h.apart⟩
  refine (h.heap n B hB).keep K (lt_of_some hB) fun g hg => ?_
  have hH := h.heap n B hB
  cases B with
  | row e t l =>
    obtain ⟨xs, h1, _⟩ := hH
    rcases h1.2 with ⟨h2, _⟩ | ⟨g', cap, cur, hv, _, hgg, _⟩
    · rw [h2] at hg; cases hg
    · rw [hv] at hg; cases hg
      exact hb.block g' (Array.getElem?_eq_some_iff.1 hgg).1
  | box e cs =>
    obtain ⟨g', cur, hv, _, hgg, _⟩ := hH
    rw [hv] at hg; cases hg
    exact hb.block g' (Array.getElem?_eq_some_iff.1 hgg).1
def AS.put (S : AS) (d : Option Tmp) (v : AV) : AS :=
  match d with
  | some t => { S with tm := S.tm.set t v }
  | none => S
theorem Rl.put {w0 w : World} {S : AS} {a : Act} {val : Nat → Value} (h : Rl w0 S a w val) (d : Option Tmp) {x : AV} {v : Value} (hv : VRel (okB S.H val) w S.H.length val x v) : Rl w0 (S.put d x) (a.put d v) w val := by
  cases d with
  | none => exact h
  | some d =>
    refine ⟨h.below, by simp [Act.put, AS.put, h.len], h.defers, fun t => ?_, h.heap, h.apart⟩
    have := h.tmps t
    simp only [Act.put, AS.put, List.getD_eq_getElem?_getD, Array.getD_eq_getD_getElem?] at this ⊢
    by_cases hd : d = t
    · subst hd
      by_cases hlt : d < S.tm.length
      · rw [List.getElem?_set_self hlt, Array.getElem?_setIfInBounds_self_of_lt (by rw [h.len]; exact hlt)]
        exact hv
      · have e1 : (S.tm.set d x)[d]? = none := List.getElem?_eq_none (by rw [List.length_set]; exact Nat.le_of_not_lt hlt)
        have e2 : (a.tmps.setIfInBounds d v)[d]? = none := Array.getElem?_eq_none (by rw [Array.size_setIfInBounds, h.len]; exact Nat.le_of_not_lt hlt)
        rw [e1, e2]
        rfl
    · rw [List.getElem?_set_ne hd, Array.getElem?_setIfInBounds_ne hd]
      exact this
end Go.Proofs.Ytbkdmnohpjihgaa.Abs

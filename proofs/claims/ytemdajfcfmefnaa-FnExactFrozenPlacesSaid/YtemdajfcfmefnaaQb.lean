/- Ma, Mb, Mc, Md, Me, Mf, Mg, in one text. -/
import Derived.Test.YtemdajfcfmefnaaQa
/- Values whose data lie behind a function of the unit (so that reduction leaves them), memory with rows of rows, and how they stand to the world. -/
namespace Go.Proofs.Ytemdajfcfmefnaa.M
open Go.RowKit Abs
set_option linter.unusedVariables false
set_option linter.unusedSimpArgs false

theorem ite_t {α : Sort _} (a b : α) : (if true = true then a else b) = a := rfl
theorem ite_f {α : Sort _} (a b : α) : (if false = true then a else b) = b := rfl

/-- A part of a slice, elements of k cells each. -/
def SubOf (d : Value) (lo hi : Int) (k : Nat) (v : Value) : Prop :=
  0 ≤ lo ∧ lo ≤ hi ∧ ∃ ad len cap, d = .slice ad len cap ∧ hi ≤ (len : Int) ∧ v = .slice (if cap = lo.toNat then ad else ad.map (·.add (lo.toNat * k))) (hi.toNat - lo.toNat) (cap - lo.toNat)
/-- What a function's captured values are, as data: stays so. -/
structure CapR where
  R : (Nat → Prop) → World → List Value → List Value → Prop
  mono : ∀ {ok ok' : Nat → Prop} {w w' : World} {fs vs : List Value}, w.heap.size ≤ w'.heap.size → (∀ b, ok b → b < w.heap.size → ok' b ∧ w'.heap[b]? = w.heap[b]?) → R ok w fs vs → R ok' w' fs vs
inductive AV where
  | int (x : Unit → Int) | lit (b : Bool) | bool (b : Unit → Bool) | str (s : Unit → ByteArray) | u8 (x : Unit → Int) | u64 (x : Unit → Int)
  | sl (t : Ty) (l : Unit → List t.den)
  | agg (t : Ty) (x : Unit → t.den)
  | cells (l : List AV)
  | ref (n : Nat)
  | ptr (n i : Nat)
  | eptr (n : Nat) (i : Unit → Int) (k : Nat)
  | elem (n : Nat) (i : Unit → Int)
  | eelem (n : Nat) (i j : Unit → Int) (k : Nat)
  | iptr (t : Ty) (x : Unit → t.den)
  | ibox (cs : List AV) (i : Nat)
  | tup (l : List AV)
  | fn (f : FuncId) (cap : List AV)
  | fnr (f : FuncId) (c : Unit → CapR)
  /-- An interface value that holds a datum. -/
  | ifr (t : TypeId) (c : Unit → CapR)
  | sub (n : Nat) (lo hi : Unit → Int) (k : Nat)
  | nilsl | undef | junk
inductive Blk where
  | row (e : TypeId) (t : Ty) (l : Unit → List t.den)
  | rows (e e2 : TypeId) (t : Ty) (l : Unit → List (List t.den))
  /-- Rows, of which one has been handed out. -/
  | rowsH (e e2 : TypeId) (t : Ty) (l : Unit → List (List t.den)) (k : Unit → Int)
  | box (e : TypeId) (cs : List AV)
  /-- A variable that is an array of k + 1 elements; a pointer to it is an eptr of elements of 0 cells. -/
  | arr (e : TypeId) (k : Nat) (t : Ty) (l : Unit → List t.den)
  /-- Memory that is let alone: as it was, in these blocks. -/
  | ext (s : Unit → Nat → Option Obj) (F : Unit → List Nat)
abbrev Hp := List (Option Blk)
/-- Values of temporaries, blocks; of which the first k came in (and lie where they lay). -/
structure AS where
  tm : List AV
  H : Hp
  k : Nat
/-- What a name of a block is bound to: the value that leads to it, the values of its rows, the blocks of memory that it takes. -/
structure Bd where
  v : Value
  hs : List Value
  F : List Nat
instance : Inhabited Bd := ⟨⟨undef, [], []⟩⟩

section
variable (ok : Nat → Prop) (w : World) (N : Nat) (val : Nat → Bd)
mutual
def VRel : AV → Value → Prop
  | .int x, v => v = .int .i64 (x ())
  | .lit b, v => v = .bool b
  | .bool b, v => v = .bool (b ())
  | .str s, v => v = .string (s ())
  | .u8 x, v => v = .int .u8 (x ())
  | .u64 x, v => v = .int .u64 (x ())
  | .sl t l, v => Rep ok w (.sl t) (l ()) [v]
  | .agg t x, v => ∃ cs : List Value, v = .agg cs.toArray ∧ Rep ok w t (x ()) cs
  | .cells l, v => ∃ cs : List Value, v = .agg cs.toArray ∧ VRelL l cs ∧ ∀ u ∈ cs, u.oneCell' = true
  | .ref n, v => n < N ∧ v = (val n).v
  | .ptr n i, v => n < N ∧ ∃ g, (val n).v = .pointer (some ⟨g, 0, none⟩) ∧ v = .pointer (some ⟨g, i, none⟩)
  | .eptr n i k, v => n < N ∧ ∃ g len cap, (val n).v = .slice (some ⟨g, 0, none⟩) len cap ∧ 0 ≤ i () ∧ i () < (len : Int) ∧ v = .pointer (some ⟨g, (i ()).toNat * k, none⟩)
  | .elem n i, v => n < N ∧ 0 ≤ i () ∧ (val n).hs[(i ()).toNat]? = some v
  | .eelem n i j k, v => n < N ∧ 0 ≤ i () ∧ ∃ g len cap, (val n).hs[(i ()).toNat]? = some (.slice (some ⟨g, 0, none⟩) len cap) ∧ 0 ≤ j () ∧ j () < (len : Int) ∧ v = .pointer (some ⟨g, (j ()).toNat * k, none⟩)
  | .iptr t x, v => PRel ok w t (x ()) v
  | .ibox cs i, v => ∃ (b : Nat) (us : List Value), v = .pointer (some ⟨b, i, none⟩) ∧ ok b ∧ b < w.heap.size ∧ (∀ (j : Nat) (u : Value), us[j]? = some u → w.cell? ⟨b, j, none⟩ = some u) ∧ VRelL cs us ∧ ∀ u ∈ us, u.oneCell' = true
  | .tup l, v => ∃ vs : List Value, v = .tuple vs.toArray ∧ VRelL l vs
  | .fn f cap, v => ∃ vs : List Value, v = .func (.func f) #[] vs.toArray ∧ VRelL cap vs
  | .fnr f c, v => ∃ fs vs : List Value, v = .func (.func f) fs.toArray vs.toArray ∧ (c ()).R ok w fs vs
  | .ifr t c, v => ∃ u : Value, v = .iface t u ∧ (c ()).R ok w [u] []
  | .sub n lo hi k, v => n < N ∧ SubOf (val n).v (lo ()) (hi ()) k v
  | .nilsl, v => v = .slice none 0 0
  | .undef, v => v = .tuple #[]
  | .junk, _ => True
def VRelL : List AV → List Value → Prop
  | [], [] => True
  | x :: xs, v :: vs => VRel x v ∧ VRelL xs vs
  | _, _ => False
end
end
section
variable {ok ok' : Nat → Prop} {w w' : World} {N N' : Nat} {val val' : Nat → Bd}
theorem VRelL.len : ∀ {xs : List AV} {vs : List Value}, VRelL ok w N val xs vs → vs.length = xs.length
  | [], [], _ => rfl
  | [], _ :: _, h => by simp [VRelL] at h
  | _ :: _, [], h => by simp [VRelL] at h
  | x :: xs, v :: vs, h => by simp only [VRelL] at h; simp [VRelL.len h.2]
theorem VRelL.get : ∀ {xs : List AV} {vs : List Value} {i : Nat} {x : AV}, VRelL ok w N val xs vs → xs[i]? = some x → ∃ v, vs[i]? = some v ∧ VRel ok w N val x v
  | [], [], i, x, _, h => by simp at h
  | [], _ :: _, _, _, h, _ => by simp [VRelL] at h
  | _ :: _, [], _, _, h, _ => by simp [VRelL] at h
  | x :: xs, v :: vs, i, y, h, hy => by
    simp only [VRelL] at h
    cases i with
    | zero => simp at hy; subst hy; exact ⟨v, rfl, h.1⟩
    | succ i => simpa using VRelL.get h.2 (by simpa using hy)
theorem VRelL.of : ∀ {xs : List AV} {vs : List Value}, vs.length = xs.length → (∀ (i : Nat) (x : AV), xs[i]? = some x → ∃ v, vs[i]? = some v ∧ VRel ok w N val x v) → VRelL ok w N val xs vs
  | [], [], _, _ => by simp [VRelL]
  | [], _ :: _, h, _ => by simp at h
  | _ :: _, [], h, _ => by simp at h
  | x :: xs, v :: vs, h, hr => by
    simp only [VRelL]
    refine ⟨?_, VRelL.of (by simpa using h) fun i y hy => by simpa using hr (i + 1) y (by simpa using hy)⟩
    obtain ⟨u, hu, hv⟩ := hr 0 x rfl
    simp at hu; subst hu; exact hv
end
mutual
/-- The value, where it doesn't go by the name n (its rows alone, where not all of it has changed). -/
def scrub (n : Nat) (full : Bool) : AV → AV
  | .ref m => if (full && m == n) = true then .junk else .ref m
  | .ptr m i => if (full && m == n) = true then .junk else .ptr m i
  | .eptr m i k => if (full && m == n) = true then .junk else .eptr m i k
  | .sub m lo hi k => if (full && m == n) = true then .junk else .sub m lo hi k
  | .elem m i => if (m == n) = true then .junk else .elem m i
  | .eelem m i j k => if (m == n) = true then .junk else .eelem m i j k
  | .cells l => .cells (scrubL n full l)
  | .tup l => .tup (scrubL n full l)
  | .ibox l i => .ibox (scrubL n full l) i
  | .fn f l => .fn f (scrubL n full l)
  | x => x
def scrubL (n : Nat) (full : Bool) : List AV → List AV
  | [] => []
  | x :: xs => scrub n full x :: scrubL n full xs
end
theorem scrubL_len (n : Nat) (full : Bool) : ∀ l : List AV, (scrubL n full l).length = l.length
  | [] => rfl
  | x :: xs => by simp [scrubL, scrubL_len n full xs]
theorem scrubL_get (n : Nat) (full : Bool) : ∀ (l : List AV) (i : Nat), (scrubL n full l)[i]? = (l[i]?).map (scrub n full)
  | [], i => by simp [scrubL]
  | x :: xs, 0 => by simp [scrubL]
  | x :: xs, i + 1 => by simp [scrubL, scrubL_get n full xs i]

/-- What is read stays as it is. -/
structure Keep (ok ok' : Nat → Prop) (w w' : World) (N N' : Nat) (val val' : Nat → Bd) (n : Nat) (full : Bool) : Prop where
  size : w.heap.size ≤ w'.heap.size
  ok : ∀ b, ok b → b < w.heap.size → ok' b ∧ w'.heap[b]? = w.heap[b]?
  le : N ≤ N'
  hv : ∀ m, m < N → (full && m == n) = false → (val' m).v = (val m).v
  hh : ∀ m, m < N → (m == n) = false → (val' m).hs = (val m).hs
section
variable {ok ok' : Nat → Prop} {w w' : World} {N N' : Nat} {val val' : Nat → Bd} {n : Nat} {full : Bool}
theorem PRel.keepM (K : Keep ok ok' w w' N N' val val' n full) {t : Ty} {x : t.den} {v : Value} (h : PRel ok w t x v) : PRel ok' w' t x v := by
  obtain ⟨b, o, cs, h1, h2, h3, h4, h5⟩ := h
  obtain ⟨k1, k2⟩ := K.ok b h2 h3
  exact ⟨b, o, cs, h1, k1, Nat.lt_of_lt_of_le h3 K.size, h4.mono K.size K.ok, fun j u hu => (World.cell?_of_block (a := ⟨b, o + j, none⟩) k2).trans (h5 j u hu)⟩
mutual
theorem VRel.scrub (K : Keep ok ok' w w' N N' val val' n full) : ∀ {x : AV} {v : Value}, VRel ok w N val x v → VRel ok' w' N' val' (scrub n full x) v
  | .int x, v, h => by simpa [VRel, M.scrub] using h
  | .lit x, v, h => by simpa [VRel, M.scrub] using h
  | .bool x, v, h => by simpa [VRel, M.scrub] using h
  | .str x, v, h => by simpa [VRel, M.scrub] using h
  | .u8 x, v, h => by simpa [VRel, M.scrub] using h
  | .u64 x, v, h => by simpa [VRel, M.scrub] using h
  | .sl t l, v, h => by simp only [VRel, M.scrub] at h ⊢; exact Rep.mono K.size K.ok h
  | .agg t x, v, h => by simp only [VRel, M.scrub] at h ⊢; obtain ⟨cs, h1, h2⟩ := h; exact ⟨cs, h1, h2.mono K.size K.ok⟩
  | .cells l, v, h => by simp only [VRel, M.scrub] at h ⊢; obtain ⟨cs, h1, h2, h3⟩ := h; exact ⟨cs, h1, VRelL.scrub K h2, h3⟩
  | .tup l, v, h => by simp only [VRel, M.scrub] at h ⊢; obtain ⟨cs, h1, h2⟩ := h; exact ⟨cs, h1, VRelL.scrub K h2⟩
  | .fn f l, v, h => by simp only [VRel, M.scrub] at h ⊢; obtain ⟨cs, h1, h2⟩ := h; exact ⟨cs, h1, VRelL.scrub K h2⟩
  | .fnr f c, v, h => by simp only [VRel, M.scrub] at h ⊢; obtain ⟨fs, cs, h1, h2⟩ := h; exact ⟨fs, cs, h1, (c ()).mono K.size K.ok h2⟩
  | .ifr t c, v, h => by simp only [VRel, M.scrub] at h ⊢; obtain ⟨u, h1, h2⟩ := h; exact ⟨u, h1, (c ()).mono K.size K.ok h2⟩
  | .iptr t x, v, h => by simp only [VRel, M.scrub] at h ⊢; exact PRel.keepM K h
  | .ibox l i, v, h => by
    simp only [VRel, M.scrub] at h ⊢
    obtain ⟨b, us, h1, h2, h3, h4, h5, h6⟩ := h
    obtain ⟨k1, k2⟩ := K.ok b h2 h3
    exact ⟨b, us, h1, k1, Nat.lt_of_lt_of_le h3 K.size, fun j u hu => (World.cell?_of_block (a := ⟨b, j, none⟩) k2).trans (h4 j u hu), VRelL.scrub K h5, h6⟩
  | .nilsl, v, h => by simpa [VRel, M.scrub] using h
  | .undef, v, h => by simpa [VRel, M.scrub] using h
  | .junk, v, h => by simp [VRel, M.scrub]
  | .ref m, v, h => by
    simp only [VRel, M.scrub] at h ⊢
    cases hc : (full && m == n) with
    | true => simp [VRel]
    | false => simp only [Bool.false_eq_true, ↓reduceIte, VRel]; exact ⟨Nat.lt_of_lt_of_le h.1 K.le, by rw [K.hv m h.1 hc]; exact h.2⟩
  | .ptr m i, v, h => by
    simp only [VRel, M.scrub] at h ⊢
    cases hc : (full && m == n) with
    | true => simp [VRel]
    | false => simp only [Bool.false_eq_true, ↓reduceIte, VRel]; obtain ⟨h0, g, h1, h2⟩ := h; exact ⟨Nat.lt_of_lt_of_le h0 K.le, g, by rw [K.hv m h0 hc]; exact h1, h2⟩
  | .eptr m i k, v, h => by
    simp only [VRel, M.scrub] at h ⊢
    cases hc : (full && m == n) with
    | true => simp [VRel]
    | false => simp only [Bool.false_eq_true, ↓reduceIte, VRel]; obtain ⟨h0, g, l, c, h1, h2⟩ := h; exact ⟨Nat.lt_of_lt_of_le h0 K.le, g, l, c, by rw [K.hv m h0 hc]; exact h1, h2⟩
  | .sub m lo hi k, v, h => by
    simp only [VRel, M.scrub] at h ⊢
    cases hc : (full && m == n) with
    | true => simp [VRel]
    | false => simp only [Bool.false_eq_true, ↓reduceIte, VRel]; obtain ⟨h0, h1⟩ := h; exact ⟨Nat.lt_of_lt_of_le h0 K.le, by rw [K.hv m h0 hc]; exact h1⟩
  | .elem m i, v, h => by
    simp only [VRel, M.scrub] at h ⊢
    cases hc : (m == n) with
    | true => simp [VRel]
    | false => simp only [Bool.false_eq_true, ↓reduceIte, VRel]; exact ⟨Nat.lt_of_lt_of_le h.1 K.le, h.2.1, by rw [K.hh m h.1 hc]; exact h.2.2⟩
  | .eelem m i j k, v, h => by
    simp only [VRel, M.scrub] at h ⊢
    cases hc : (m == n) with
    | true => simp [VRel]
    | false => simp only [Bool.false_eq_true, ↓reduceIte, VRel]; obtain ⟨h0, h00, g, l, c, h1, h2⟩ := h; exact ⟨Nat.lt_of_lt_of_le h0 K.le, h00, g, l, c, by rw [K.hh m h0 hc]; exact h1, h2⟩
theorem VRelL.scrub (K : Keep ok ok' w w' N N' val val' n full) : ∀ {xs : List AV} {vs : List Value}, VRelL ok w N val xs vs → VRelL ok' w' N' val' (scrubL n full xs) vs
  | [], [], _ => by simp [VRelL, scrubL]
  | [], _ :: _, h => by simp [VRelL] at h
  | _ :: _, [], h => by simp [VRelL] at h
  | x :: xs, v :: vs, h => by simp only [VRelL, scrubL] at h ⊢; exact ⟨VRel.scrub K h.1, VRelL.scrub K h.2⟩
end
/-- What is read stays as it is, and no name has changed. -/
structure Keep0 (ok ok' : Nat → Prop) (w w' : World) (N N' : Nat) (val val' : Nat → Bd) : Prop where
  size : w.heap.size ≤ w'.heap.size
  ok : ∀ b, ok b → b < w.heap.size → ok' b ∧ w'.heap[b]? = w.heap[b]?
  le : N ≤ N'
  hv : ∀ m, m < N → (val' m).v = (val m).v
  hh : ∀ m, m < N → (val' m).hs = (val m).hs
theorem PRel.keep0 (K : Keep0 ok ok' w w' N N' val val') {t : Ty} {x : t.den} {v : Value} (h : PRel ok w t x v) : PRel ok' w' t x v := by
  obtain ⟨b, o, cs, h1, h2, h3, h4, h5⟩ := h
  obtain ⟨k1, k2⟩ := K.ok b h2 h3
  exact ⟨b, o, cs, h1, k1, Nat.lt_of_lt_of_le h3 K.size, h4.mono K.size K.ok, fun j u hu => (World.cell?_of_block (a := ⟨b, o + j, none⟩) k2).trans (h5 j u hu)⟩
mutual
theorem VRel.keep (K : Keep0 ok ok' w w' N N' val val') : ∀ {x : AV} {v : Value}, VRel ok w N val x v → VRel ok' w' N' val' x v
  | .int x, v, h => by simpa [VRel] using h
  | .lit x, v, h => by simpa [VRel] using h
  | .bool x, v, h => by simpa [VRel] using h
  | .str x, v, h => by simpa [VRel] using h
  | .u8 x, v, h => by simpa [VRel] using h
  | .u64 x, v, h => by simpa [VRel] using h
  | .sl t l, v, h => by simp only [VRel] at h ⊢; exact Rep.mono K.size K.ok h
  | .agg t x, v, h => by simp only [VRel] at h ⊢; obtain ⟨cs, h1, h2⟩ := h; exact ⟨cs, h1, h2.mono K.size K.ok⟩
  | .cells l, v, h => by simp only [VRel] at h ⊢; obtain ⟨cs, h1, h2, h3⟩ := h; exact ⟨cs, h1, VRelL.keep K h2, h3⟩
  | .tup l, v, h => by simp only [VRel] at h ⊢; obtain ⟨cs, h1, h2⟩ := h; exact ⟨cs, h1, VRelL.keep K h2⟩
  | .fn f l, v, h => by simp only [VRel] at h ⊢; obtain ⟨cs, h1, h2⟩ := h; exact ⟨cs, h1, VRelL.keep K h2⟩
  | .fnr f c, v, h => by simp only [VRel] at h ⊢; obtain ⟨fs, cs, h1, h2⟩ := h; exact ⟨fs, cs, h1, (c ()).mono K.size K.ok h2⟩
  | .ifr t c, v, h => by simp only [VRel] at h ⊢; obtain ⟨u, h1, h2⟩ := h; exact ⟨u, h1, (c ()).mono K.size K.ok h2⟩
  | .iptr t x, v, h => by simp only [VRel] at h ⊢; exact PRel.keep0 K h
  | .ibox l i, v, h => by
    simp only [VRel] at h ⊢
    obtain ⟨b, us, h1, h2, h3, h4, h5, h6⟩ := h
    obtain ⟨k1, k2⟩ := K.ok b h2 h3
    exact ⟨b, us, h1, k1, Nat.lt_of_lt_of_le h3 K.size, fun j u hu => (World.cell?_of_block (a := ⟨b, j, none⟩) k2).trans (h4 j u hu), VRelL.keep K h5, h6⟩
  | .nilsl, v, h => by simpa [VRel] using h
  | .undef, v, h => by simpa [VRel] using h
  | .junk, v, h => by simp [VRel]
  | .ref m, v, h => by simp only [VRel] at h ⊢; exact ⟨Nat.lt_of_lt_of_le h.1 K.le, by rw [K.hv m h.1]; exact h.2⟩
  | .sub m lo hi k, v, h => by simp only [VRel] at h ⊢; exact ⟨Nat.lt_of_lt_of_le h.1 K.le, by rw [K.hv m h.1]; exact h.2⟩
  | .ptr m i, v, h => by simp only [VRel] at h ⊢; obtain ⟨h0, g, h1, h2⟩ := h; exact ⟨Nat.lt_of_lt_of_le h0 K.le, g, by rw [K.hv m h0]; exact h1, h2⟩
  | .eptr m i k, v, h => by simp only [VRel] at h ⊢; obtain ⟨h0, g, l, c, h1, h2⟩ := h; exact ⟨Nat.lt_of_lt_of_le h0 K.le, g, l, c, by rw [K.hv m h0]; exact h1, h2⟩
  | .elem m i, v, h => by simp only [VRel] at h ⊢; exact ⟨Nat.lt_of_lt_of_le h.1 K.le, h.2.1, by rw [K.hh m h.1]; exact h.2.2⟩
  | .eelem m i j k, v, h => by simp only [VRel] at h ⊢; obtain ⟨h0, h00, g, l, c, h1, h2⟩ := h; exact ⟨Nat.lt_of_lt_of_le h0 K.le, h00, g, l, c, by rw [K.hh m h0]; exact h1, h2⟩
theorem VRelL.keep (K : Keep0 ok ok' w w' N N' val val') : ∀ {xs : List AV} {vs : List Value}, VRelL ok w N val xs vs → VRelL ok' w' N' val' xs vs
  | [], [], _ => by simp [VRelL]
  | [], _ :: _, h => by simp [VRelL] at h
  | _ :: _, [], h => by simp [VRelL] at h
  | x :: xs, v :: vs, h => by simp only [VRelL] at h ⊢; exact ⟨VRel.keep K h.1, VRelL.keep K h.2⟩
end
end

/-- What a function's values ahead of its arguments are (a method's receiver), as data. -/
def ofBound (l : List AV) : CapR := ⟨fun ok w fs vs => vs = [] ∧ VRelL ok w 0 (fun _ => default) l fs, fun h1 h2 h => ⟨h.1, VRelL.keep ⟨h1, h2, Nat.le_refl _, fun _ h => absurd h (Nat.not_lt_zero _), fun _ h => absurd h (Nat.not_lt_zero _)⟩ h.2⟩⟩
mutual
def boundB : AV → Bool
  | .agg _ _ => true | .int _ => true | .lit _ => true | .bool _ => true | .str _ => true | .u64 _ => true | .sl _ _ => true | .ifr _ _ => true
  | .cells l => boundL l
  | _ => false
def boundL : List AV → Bool
  | [] => true
  | x :: xs => boundB x && boundL xs
end
mutual
theorem boundB_rel1 {ok : Nat → Prop} {w : World} {N N' : Nat} {val val' : Nat → Bd} : ∀ {x : AV} {v : Value}, boundB x = true → VRel ok w N val x v → VRel ok w N' val' x v := fun {x v} hb h => by
  cases x <;> simp only [boundB] at hb <;> (try (exact absurd hb (by decide)))
  case cells l => simp only [VRel] at h ⊢; obtain ⟨cs, h1, h2, h3⟩ := h; exact ⟨cs, h1, boundL_rel hb h2, h3⟩
  all_goals (simp only [VRel] at h ⊢; exact h)
theorem boundL_rel {ok : Nat → Prop} {w : World} {N N' : Nat} {val val' : Nat → Bd} : ∀ {xs : List AV} {vs : List Value}, boundL xs = true → VRelL ok w N val xs vs → VRelL ok w N' val' xs vs
  | [], [], _, _ => by simp [VRelL]
  | [], _ :: _, _, h => by simp [VRelL] at h
  | _ :: _, [], _, h => by simp [VRelL] at h
  | x :: xs, v :: vs, hb, h => by
    simp only [boundL, Bool.and_eq_true] at hb
    simp only [VRelL] at h ⊢
    exact ⟨boundB_rel1 hb.1 h.1, boundL_rel hb.2 h.2⟩
end
theorem boundB_rel {ok : Nat → Prop} {w : World} {N N' : Nat} {val val' : Nat → Bd} : ∀ {xs : List AV} {vs : List Value}, xs.all boundB = true → VRelL ok w N val xs vs → VRelL ok w N' val' xs vs
  | [], [], _, _ => by simp [VRelL]
  | [], _ :: _, _, h => by simp [VRelL] at h
  | _ :: _, [], _, h => by simp [VRelL] at h
  | x :: xs, v :: vs, hb, h => by
    simp only [List.all_cons, Bool.and_eq_true] at hb
    simp only [VRelL] at h ⊢
    exact ⟨boundB_rel1 hb.1 h.1, boundB_rel hb.2 h.2⟩

def okF (H : Hp) (val : Nat → Bd) (b : Nat) : Prop := ∀ n B, H[n]? = some (some B) → b ∉ (val n).F
/-- What lies in the memory of a block. -/
def BRel (ok : Nat → Prop) (w : World) (N : Nat) (val : Nat → Bd) (d : Bd) : Blk → Prop
  | .row e t l => ∃ xs, w.ownsRow 0 e t.n d.v (l ()).length xs ∧ RepL ok w t (l ()) xs ∧ d.F = (ownB d.v).toList
  | .rows e e2 t l => w.ownsRow 0 e 1 d.v (l ()).length d.hs ∧ (∀ (i : Nat) (y : List t.den), (l ())[i]? = some y → ∃ h xs, d.hs[i]? = some h ∧ w.ownsRow 0 e2 t.n h y.length xs ∧ RepL ok w t y xs) ∧
      (∀ g, g ∈ d.F ↔ ownB d.v = some g ∨ ∃ h ∈ d.hs, ownB h = some g) ∧
      (∀ (i j : Nat) (h h' : Value) (g : Nat), d.hs[i]? = some h → d.hs[j]? = some h' → ownB h = some g → ownB h' = some g → i = j) ∧ (∀ h ∈ d.hs, ∀ g, ownB h = some g → ownB d.v ≠ some g)
  | .rowsH e e2 t l k => w.ownsRow 0 e 1 d.v (l ()).length d.hs ∧ (∀ (i : Nat) (y : List t.den), (l ())[i]? = some y → i ≠ (k ()).toNat → ∃ h xs, d.hs[i]? = some h ∧ w.ownsRow 0 e2 t.n h y.length xs ∧ RepL ok w t y xs) ∧
      (∀ g, g ∈ d.F ↔ ownB d.v = some g ∨ ∃ (i : Nat) (h : Value), i ≠ (k ()).toNat ∧ d.hs[i]? = some h ∧ ownB h = some g) ∧
      (∀ (i j : Nat) (h h' : Value) (g : Nat), i ≠ (k ()).toNat → j ≠ (k ()).toNat → d.hs[i]? = some h → d.hs[j]? = some h' → ownB h = some g → ownB h' = some g → i = j) ∧ (∀ (i : Nat) (h : Value), i ≠ (k ()).toNat → d.hs[i]? = some h → ∀ g, ownB h = some g → ownB d.v ≠ some g)
  | .box e cs => ∃ g cur, d.v = .pointer (some ⟨g, 0, none⟩) ∧ w.heap[g]? = some (.cells cur e (0, 0)) ∧ VRelL ok w N val cs cur.toList ∧ (∀ u ∈ cur.toList, u.oneCell' = true) ∧ d.F = [g]
  | .arr e k t l => (∃ xs, w.ownsRow 0 e t.n d.v (l ()).length xs ∧ RepL ok w t (l ()) xs ∧ d.F = (ownB d.v).toList) ∧ (l ()).length = k + 1 ∧ ∃ g, d.v = .slice (some ⟨g, 0, none⟩) (k + 1) (k + 1)
  | .ext s F => d.F = F () ∧ ∀ g ∈ F (), w.heap[g]? = s () g
/-- The memory: what its blocks hold, where they lie, and that no two share one. -/
structure HRel (w : World) (val : Nat → Bd) (H : Hp) : Prop where
  blk : ∀ n B, H[n]? = some (some B) → BRel (okF H val) w H.length val (val n) B
  lt : ∀ n B, H[n]? = some (some B) → ∀ g ∈ (val n).F, g < w.heap.size
  apart : ∀ n m B C, n ≠ m → H[n]? = some (some B) → H[m]? = some (some C) → ∀ g ∈ (val n).F, g ∉ (val m).F
structure Frame0 (w0 : World) (B : Nat → Prop) (w : World) : Prop where
  os : w.os = w0.os
  tape : w.tape = w0.tape
  output : w.output = w0.output
  size : w0.heap.size ≤ w.heap.size
  same : ∀ b, b < w0.heap.size → ¬ B b → w.heap[b]? = w0.heap[b]?
structure Rl (w0 : World) (B : Nat → Prop) (hd : Nat → Value) (S : AS) (a : Act) (w : World) (val : Nat → Bd) : Prop where
  fr : Frame0 w0 B w
  len : a.tmps.size = S.tm.length
  defers : a.defers = []
  tmps : ∀ t, VRel (okF S.H val) w S.H.length val (S.tm.getD t .undef) (a.tmps.getD t undef)
  heap : HRel w val S.H
  own : ∀ n b, S.H[n]? = some (some b) → ∀ g ∈ (val n).F, w0.heap.size ≤ g ∨ B g
  kept : ∀ n, n < S.k → (val n).v = hd n
  kle : S.k ≤ S.H.length

theorem Frame0.refl (w : World) (B : Nat → Prop) : Frame0 w B w := ⟨rfl, rfl, rfl, Nat.le_refl _, fun _ _ _ => rfl⟩
theorem Frame0.trans {w0 w w' : World} {B : Nat → Prop} (h : Frame0 w0 B w) (h' : Below w.heap.size w w') : Frame0 w0 B w' :=
  ⟨h'.os.trans h.os, h'.tape.trans h.tape, h'.output.trans h.output, Nat.le_trans h.size h'.size, fun b hb hB => (h'.block b (Nat.lt_of_lt_of_le hb h.size)).trans (h.same b hb hB)⟩
theorem ownsRow_keep {w w' : World} {base : Nat} {e : TypeId} {k : Nat} {v : Value} {n : Nat} {xs : List Value} (h : w.ownsRow base e k v n xs)
    (hh : ∀ g, g ∈ (ownB v).toList → w'.heap[g]? = w.heap[g]?) : w'.ownsRow base e k v n xs :=
  ownsRow_heap h fun g hg => hh g (by rw [hg]; simp)
theorem repL_keep {ok ok' : Nat → Prop} {w w' : World} (hs : w.heap.size ≤ w'.heap.size) (hk : ∀ b, ok b → b < w.heap.size → ok' b ∧ w'.heap[b]? = w.heap[b]?) {t : Ty} {l : List t.den} {xs : List Value} (h : RepL ok w t l xs) : RepL ok' w' t l xs :=
  ⟨h.1, fun i y hy => (h.2 i y hy).mono hs hk⟩
theorem BRel.keep {ok ok' : Nat → Prop} {w w' : World} {N N' : Nat} {val val' : Nat → Bd} (K : Keep0 ok ok' w w' N N' val val') {d : Bd} {B : Blk}
    (hh : ∀ g ∈ d.F, w'.heap[g]? = w.heap[g]?) (h : BRel ok w N val d B) : BRel ok' w' N' val' d B := by
  cases B with
  | row e t l =>
    obtain ⟨xs, h1, h2, h3⟩ := h
    exact ⟨xs, ownsRow_keep h1 (fun g hg => hh g (by rw [h3]; exact hg)), repL_keep K.size K.ok h2, h3⟩
  | rows e e2 t l =>
    obtain ⟨h1, h2, h3, h4⟩ := h
    refine ⟨ownsRow_keep h1 (fun g hg => hh g ((h3 g).2 (.inl (by simpa using hg)))), fun i y hy => ?_, h3, h4⟩
    obtain ⟨h, xs, k1, k2, k3⟩ := h2 i y hy
    exact ⟨h, xs, k1, ownsRow_keep k2 (fun g hg => hh g ((h3 g).2 (.inr ⟨h, List.mem_of_getElem? k1, by simpa using hg⟩))), repL_keep K.size K.ok k3⟩
  | rowsH e e2 t l k =>
    obtain ⟨h1, h2, h3, h4⟩ := h
    refine ⟨ownsRow_keep h1 (fun g hg => hh g ((h3 g).2 (.inl (by simpa using hg)))), fun i y hy hi => ?_, h3, h4⟩
    obtain ⟨h, xs, k1, k2, k3⟩ := h2 i y hy hi
    exact ⟨h, xs, k1, ownsRow_keep k2 (fun g hg => hh g ((h3 g).2 (.inr ⟨i, h, hi, k1, by simpa using hg⟩))), repL_keep K.size K.ok k3⟩
  | box e cs =>
    obtain ⟨g, cur, h1, h2, h3, h4, h5⟩ := h
    exact ⟨g, cur, h1, by rw [hh g (by rw [h5]; simp)]; exact h2, h3.keep K, h4, h5⟩
  | arr e k t l =>
    obtain ⟨⟨xs, h1, h2, h3⟩, h4⟩ := h
    exact ⟨⟨xs, ownsRow_keep h1 (fun g hg => hh g (by rw [h3]; exact hg)), repL_keep K.size K.ok h2, h3⟩, h4⟩
  | ext s F =>
    obtain ⟨h1, h2⟩ := h
    exact ⟨h1, fun g hg => (hh g (by rw [h1]; exact hg)).trans (h2 g hg)⟩
theorem HRel.keep {w w' : World} {val : Nat → Bd} {H : Hp} (h : HRel w val H) (hs : w.heap.size ≤ w'.heap.size) (hb : ∀ b, b < w.heap.size → w'.heap[b]? = w.heap[b]?) : HRel w' val H :=
  ⟨fun n B hB => (h.blk n B hB).keep ⟨hs, fun b hk hlt => ⟨hk, hb b hlt⟩, Nat.le_refl _, fun _ _ => rfl, fun _ _ => rfl⟩ fun g hg => hb g (h.lt n B hB g hg),
    fun n B hB g hg => Nat.lt_of_lt_of_le (h.lt n B hB g hg) hs, h.apart⟩
/-- The world has grown, old blocks are as they were. -/
theorem Rl.grow {w0 w w' : World} {B : Nat → Prop} {hd : Nat → Value} {S : AS} {a : Act} {val : Nat → Bd} (h : Rl w0 B hd S a w val) (hb : Below w.heap.size w w') : Rl w0 B hd S a w' val := by
  have K : Keep0 (okF S.H val) (okF S.H val) w w' S.H.length S.H.length val val := ⟨hb.size, fun b hk hlt => ⟨hk, hb.block b hlt⟩, Nat.le_refl _, fun _ _ => rfl, fun _ _ => rfl⟩
  exact ⟨h.fr.trans hb, h.len, h.defers, fun t => (h.tmps t).keep K, h.heap.keep hb.size hb.block, h.own, h.kept, h.kle⟩
def AS.put (S : AS) (d : Option Tmp) (v : AV) : AS :=
  match d with
  | some t => { S with tm := S.tm.set t v }
  | none => S
theorem Rl.put {w0 w : World} {B : Nat → Prop} {hd : Nat → Value} {S : AS} {a : Act} {val : Nat → Bd} (h : Rl w0 B hd S a w val) (d : Option Tmp) {x : AV} {v : Value} (hv : VRel (okF S.H val) w S.H.length val x v) : Rl w0 B hd (S.put d x) (a.put d v) w val := by
  cases d with
  | none => exact h
  | some d =>
    refine ⟨h.fr, by simp [Act.put, AS.put, h.len], h.defers, fun t => ?_, h.heap, h.own, h.kept, h.kle⟩
    have := h.tmps t
    simp only [Act.put, AS.put, List.getD_eq_getElem?_getD, Array.getD_eq_getD_getElem?] at this ⊢
    by_cases hd : d = t
    · subst hd
      by_cases hlt : d < S.tm.length
      · rw [List.getElem?_set_self hlt, Array.getElem?_setIfInBounds_self_of_lt (by rw [h.len]; exact hlt)]
        exact hv
      · have e1 : (S.tm.set d x)[d]? = none := List.getElem?_eq_none (by rw [List.length_set]; exact Nat.le_of_not_lt hlt)
        have e2 : (a.tmps.setIfInBounds d v)[d]? = none := Array.getElem?_eq_none (by rw [Array.size_setIfInBounds, h.len]; exact Nat.le_of_not_lt hlt)
        rw [e1, e2]
        simp [VRel]; rfl
    · rw [List.getElem?_set_ne hd, Array.getElem?_setIfInBounds_ne hd]
      exact this
end Go.Proofs.Ytemdajfcfmefnaa.M
/- Types as a table, and what an operation that makes no memory yields: by reckoning. -/
namespace Go.Proofs.Ytemdajfcfmefnaa.M
open Go.RowKit Abs
set_option linter.unusedVariables false
set_option linter.unusedSimpArgs false

inductive UK where
  | int (k : IntKind) | bool | string
  | slice (e : TypeId) | array (n : Nat) (e : TypeId) | struct (fs : List (Nat × TypeId))
  | other
structure TI where
  und : UK
  size : Nat
  agg : Bool
  ty : Option Ty
/-- A table: a type's number to what is told of it. -/
abbrev Tab := TypeId → TI
def tl (T : Tab) (t : TypeId) : TI := T t
/-- A table as a tree, to be held against the program. -/
inductive TT where
  | leaf
  | node (k : TypeId) (v : TI) (l r : TT)
def tlt : TT → TypeId → TI
  | .leaf, _ => ⟨.other, 0, false, none⟩
  | .node k v l r, t => if t < k then tlt l t else if t = k then v else tlt r t
def undB (P : Program) (t : TypeId) (u : UK) : Bool :=
  match u, P.underlying t with
  | .other, _ => true
  | .int k, some (.int k') => k == k'
  | .bool, some .bool => true
  | .string, some .string => true
  | .slice e, some (.slice e') => e == e'
  | .array n e, some (.array n' e') => n == n' && e == e'
  | .struct l, some (.struct fs) => (fs.toList.map fun f => (f.offset, f.type)) == l
  | _, _ => false
def iterB (f : List Value → Option (List Value)) : Nat → List Value → Option (List Value)
  | 0, l => some l
  | m + 1, l => (f l).bind (iterB f m)
def zmatch : Ty → List Value → Option (List Value)
  | .int, l => (match l with | .int .i64 n :: r => if (n == 0) = true then some r else none | _ => none)
  | .bool, l => (match l with | .bool b :: r => if (b) = true then none else some r | _ => none)
  | .str, l => (match l with | .string s :: r => if (s.size == 0) = true then some r else none | _ => none)
  | .u64, l => (match l with | .int .u64 n :: r => if (n == 0) = true then some r else none | _ => none)
  | .sl _, l => (match l with | .slice none 0 0 :: r => some r | _ => none)
  | .pr a b, l => (zmatch a l).bind (zmatch b)
  | .ar k t, l => iterB (zmatch t) (k + 1) l
def tyB (P : Program) (t : TypeId) (tt : Ty) : Bool :=
  fits P t tt && (match P.info? t with
    | some i => i.size == tt.n && decide (i.bytes ≤ 1024) && (match i.zero with | some z => (match zmatch tt z.cells.toList with | some [] => true | _ => false) | none => false)
    | none => false)
def zszB (P : Program) (t : TypeId) (u : UK) (n : Nat) : Bool :=
  match u with
  | .struct _ => (match P.info? t with
    | some i => (match i.zero with | some z => z.cells.size == n | none => false)
    | none => false)
  | _ => true
def entryB (P : Program) (t : TypeId) (i : TI) : Bool :=
  zszB P t i.und i.size && undB P t i.und && szOf P t == some i.size && isAggB P t == some i.agg && (match i.ty with | some tt => tyB P t tt | none => true)
def tabB (P : Program) : TT → Bool
  | .leaf => true
  | .node k v l r => entryB P k v && tabB P l && tabB P r

theorem iterB_sound {f : List Value → Option (List Value)} {c : List Value} (hf : ∀ l r, f l = some r → l = c ++ r) : ∀ (m : Nat) (l r : List Value), iterB f m l = some r → l = (List.replicate m c).flatten ++ r
  | 0, l, r, h => by cases h; rfl
  | m + 1, l, r, h => by
    unfold iterB at h
    simp only [Option.bind_eq_some_iff] at h
    obtain ⟨q, h1, h2⟩ := h
    rw [hf _ _ h1, iterB_sound hf m _ _ h2, List.replicate_succ, List.flatten_cons, List.append_assoc]
theorem zmatch_sound : ∀ {t : Ty} {l r : List Value}, zmatch t l = some r → l = zcellsOf t ++ r
  | .pr a b, l, r, h => by
    unfold zmatch at h
    simp only [Option.bind_eq_some_iff] at h
    obtain ⟨m, h1, h2⟩ := h
    rw [zmatch_sound h1, zmatch_sound h2]
    simp [zcellsOf]
  | .int, l, r, h => by
    unfold zmatch at h
    split at h
    · rename_i n r'
      cases hn : (n == 0) with
      | true => rw [hn] at h; simp only [↓reduceIte] at h; cases h; simp at hn; subst hn; rfl
      | false => rw [hn] at h; cases h
    · cases h
  | .u64, l, r, h => by
    unfold zmatch at h
    split at h
    · rename_i n r'
      cases hn : (n == 0) with
      | true => rw [hn] at h; simp only [↓reduceIte] at h; cases h; simp at hn; subst hn; rfl
      | false => rw [hn] at h; cases h
    · cases h
  | .bool, l, r, h => by
    unfold zmatch at h
    split at h
    · rename_i b r'
      cases b
      · cases h; rfl
      · cases h
    · cases h
  | .str, l, r, h => by
    unfold zmatch at h
    split at h
    · rename_i s r'
      cases hn : (s.size == 0) with
      | true =>
        rw [hn] at h; simp only [↓reduceIte] at h; cases h
        have : s = ByteArray.empty := by
          apply ByteArray.ext
          apply Array.eq_empty_of_size_eq_zero
          simpa using hn
        subst this; rfl
      | false => rw [hn] at h; cases h
    · cases h
  | .sl t, l, r, h => by
    unfold zmatch at h
    split at h
    · cases h; rfl
    · cases h
  | .ar k t, l, r, h => by
    unfold zmatch at h
    unfold zcellsOf
    exact iterB_sound (fun l r h => zmatch_sound h) _ _ _ h

/-- What the table says of a type. -/
structure EOk (P : Program) (t : TypeId) (i : TI) : Prop where
  und : undB P t i.und = true
  size : szOf P t = some i.size
  agg : isAggB P t = some i.agg
  zsz : zszB P t i.und i.size = true
  ty : ∀ tt, i.ty = some tt → fits P t tt = true ∧ elemOk P t tt
theorem entry_ok {P : Program} {t : TypeId} {i : TI} (h : entryB P t i = true) : EOk P t i := by
  unfold entryB at h
  simp only [Bool.and_eq_true, beq_iff_eq] at h
  obtain ⟨⟨⟨⟨h0, h1⟩, h2⟩, h3⟩, h4⟩ := h
  refine ⟨h1, h2, h3, h0, fun tt ht => ?_⟩
  rw [ht] at h4
  simp only [tyB, Bool.and_eq_true] at h4
  obtain ⟨h5, h6⟩ := h4
  refine ⟨h5, ?_⟩
  split at h6
  · rename_i j hj
    simp only [Bool.and_eq_true, beq_iff_eq, decide_eq_true_eq] at h6
    obtain ⟨⟨h7, h8⟩, h9⟩ := h6
    split at h9
    · rename_i z hz
      split at h9
      · rename_i hm
        have := zmatch_sound hm
        rw [List.append_nil] at this
        exact ⟨by rw [hj]; simp [h7, hz, this], by rw [hj]; simp [h8]⟩
      · cases h9
    · cases h9
  · cases h6
def TOk (P : Program) (T : Tab) : Prop := ∀ t, tl T t = ⟨.other, 0, false, none⟩ ∨ EOk P t (tl T t)
theorem tab_ok {P : Program} : ∀ {T : TT}, tabB P T = true → TOk P (tlt T)
  | .leaf, _, t => .inl rfl
  | .node k v l r, h, t => by
    simp only [tabB, Bool.and_eq_true] at h
    unfold tl tlt
    split
    · exact tab_ok (T := l) h.1.2 t
    · split
      · rename_i hx; subst hx; exact .inr (entry_ok h.1.1)
      · exact tab_ok (T := r) h.2 t
section
variable {P : Program} {T : Tab} (hT : TOk P T) {t : TypeId}
include hT
theorem TOk.of {u : UK} (h : (tl T t).und = u) (hu : u ≠ .other) : EOk P t (tl T t) := by
  rcases hT t with h1 | h1
  · rw [h1] at h; exact (hu h.symm).elim
  · exact h1
theorem TOk.ty {tt : Ty} (h : (tl T t).ty = some tt) : fits P t tt = true ∧ elemOk P t tt ∧ EOk P t (tl T t) := by
  rcases hT t with h1 | h1
  · rw [h1] at h; cases h
  · exact ⟨(h1.ty tt h).1, (h1.ty tt h).2, h1⟩
theorem TOk.slice {e : TypeId} (h : (tl T t).und = .slice e) : slElem P t = some e := by
  have h1 := (hT.of h (by simp)).und
  rw [h] at h1
  unfold undB at h1
  split at h1 <;> simp_all [slElem]
theorem TOk.array {n : Nat} {e : TypeId} (h : (tl T t).und = .array n e) : arElem P t = some (n, e) := by
  have h1 := (hT.of h (by simp)).und
  rw [h] at h1
  unfold undB at h1
  split at h1 <;> simp_all [arElem]
theorem TOk.field {l : List (Nat × TypeId)} {f : Nat} {off : Nat} {ft : TypeId} (h : (tl T t).und = .struct l) (hf : l[f]? = some (off, ft)) : fieldOf P t f = some (off, ft) := by
  have h1 := (hT.of h (by simp)).und
  rw [h] at h1
  unfold undB at h1
  cases hu : P.underlying t with
  | none => rw [hu] at h1; cases h1
  | some d =>
    rw [hu] at h1
    cases d <;> simp only [Bool.false_eq_true] at h1
    simp only [beq_iff_eq] at h1
    unfold fieldOf
    rw [hu]
    rw [← h1, List.getElem?_map] at hf
    simpa using hf
theorem TOk.int {k : IntKind} (h : (tl T t).und = .int k) : P.underlying t = some (.int k) := by
  have h1 := (hT.of h (by simp)).und
  rw [h] at h1
  unfold undB at h1
  split at h1 <;> simp_all
theorem TOk.bool (h : (tl T t).und = .bool) : P.underlying t = some .bool := by
  have h1 := (hT.of h (by simp)).und
  rw [h] at h1
  unfold undB at h1
  split at h1 <;> simp_all
theorem TOk.structU {l : List (Nat × TypeId)} (h : (tl T t).und = .struct l) : ∃ fs, P.underlying t = some (.struct fs) := by
  have h1 := (hT.of h (by simp)).und
  rw [h] at h1
  unfold undB at h1
  split at h1 <;> simp_all
theorem TOk.string (h : (tl T t).und = .string) : P.underlying t = some .string := by
  have h1 := (hT.of h (by simp)).und
  rw [h] at h1
  unfold undB at h1
  split at h1 <;> simp_all
end

/-- An obligation. -/
abbrev Ob := Option (Unit → Prop)
def Ob.holds : Ob → Prop
  | none => True
  | some p => p ()
def inI (x : Int) : Prop := -9223372036854775808 ≤ x ∧ x ≤ 9223372036854775807
def getI (t : Ty) (l : List t.den) (i : Int) : t.den := l.getD i.toNat (zden t)
theorem getI_get {t : Ty} {l : List t.den} {i : Int} (h0 : 0 ≤ i) (h1 : i < (l.length : Int)) : l[i.toNat]? = some (getI t l i) := by
  unfold getI
  rw [List.getD_eq_getElem?_getD, List.getElem?_eq_getElem (by omega)]
  rfl
def getR (t : Ty) (l : List (List t.den)) (i : Int) : List t.den := l.getD i.toNat []
theorem getR_get {t : Ty} {l : List (List t.den)} {i : Int} (h0 : 0 ≤ i) (h1 : i < (l.length : Int)) : l[i.toNat]? = some (getR t l i) := by
  unfold getR
  rw [List.getD_eq_getElem?_getD, List.getElem?_eq_getElem (by omega)]
  rfl
def injT : (t : Ty) → (Unit → t.den) → AV
  | .int, x => .int x
  | .bool, x => .bool x
  | .str, x => .str x
  | .u64, x => .u64 x
  | .sl t, x => .sl t x
  | .pr a b, x => .agg (.pr a b) x
  | .ar k t, x => .agg (.ar k t) x
/-- The same datum at the same type. -/
def castT : (u t : Ty) → (Unit → u.den) → Option (Unit → t.den)
  | .int, .int, x => some x
  | .bool, .bool, x => some x
  | .str, .str, x => some x
  | .u64, .u64, x => some x
  | .ar 7 .int, .ar 7 .int, x => some x
  | .ar 2 .int, .ar 2 .int, x => some x
  | .ar 5 .int, .ar 5 .int, x => some x
  | .pr .int (.ar 5 .int), .pr .int (.ar 5 .int), x => some x
  | .pr .int (.ar 7 .int), .pr .int (.ar 7 .int), x => some x
  | .pr .int (.sl .u64), .pr .int (.sl .u64), x => some x
  | .pr (.sl (.sl .int)) .int, .pr (.sl (.sl .int)) .int, x => some x
  | .pr .int (.pr (.sl (.sl .int)) (.sl .int)), .pr .int (.pr (.sl (.sl .int)) (.sl .int)), x => some x
  | .sl .u64, .sl .u64, x => some x
  | .sl .int, .sl .int, x => some x
  | .sl .bool, .sl .bool, x => some x
  | .sl .str, .sl .str, x => some x
  | .sl (.sl .int), .sl (.sl .int), x => some x
  | .sl (.pr .int .int), .sl (.pr .int .int), x => some x
  | .sl (.sl (.pr .int .int)), .sl (.sl (.pr .int .int)), x => some x
  | .sl (.sl (.sl .int)), .sl (.sl (.sl .int)), x => some x
  | .pr .int .int, .pr .int .int, x => some x
  | .pr .int (.sl (.pr .int .int)), .pr .int (.sl (.pr .int .int)), x => some x
  | .pr (.sl (.sl .int)) (.sl (.pr .int .int)), .pr (.sl (.sl .int)) (.sl (.pr .int .int)), x => some x
  | .pr .int (.sl (.sl .int)), .pr .int (.sl (.sl .int)), x => some x
  | _, _, _ => none
theorem castT_rep {ok : Nat → Prop} {w : World} {u t : Ty} {x : Unit → u.den} {y : Unit → t.den} (h : castT u t x = some y) : u = t ∧ ∀ cs, Rep ok w u (x ()) cs → Rep ok w t (y ()) cs := by
  unfold castT at h
  split at h <;> cases h <;> exact ⟨rfl, fun cs h => h⟩
theorem castT_eq {u t : Ty} {x : Unit → u.den} {y : Unit → t.den} (h : castT u t x = some y) : ∃ e : u = t, y = fun _ => e ▸ x () := by
  unfold castT at h
  split at h <;> cases h <;> exact ⟨rfl, rfl⟩
def asB : AV → Option (Unit → Bool)
  | .lit b => some fun _ => b
  | .bool b => some b
  | _ => none
def cvv : Value → AV
  | .int .i64 x => .int fun _ => x
  | .int .u8 x => .u8 fun _ => x
  | .int .u64 x => .u64 fun _ => x
  | .bool b => .lit b
  | .string s => .str fun _ => s
  | .slice none 0 0 => .nilsl
  | .tuple vs => if vs.size = 0 then .undef else .junk
  | _ => .junk
def AS.ev (S : AS) : Operand → AV
  | .tmp t => S.tm.getD t .undef
  | .const v => cvv v
  | .global _ => .junk
  | .func f => .fn f []
def in64 (x : Int) : Prop := 0 ≤ x ∧ x ≤ 18446744073709551615
def band (a b : Int) : Int := ((a.toNat &&& b.toNat : Nat) : Int)
def bor (a b : Int) : Int := ((a.toNat ||| b.toNat : Nat) : Int)
def bxor (a b : Int) : Int := ((a.toNat ^^^ b.toNat : Nat) : Int)
def bandn (a b : Int) : Int := ((a.toNat &&& (18446744073709551615 - b.toNat) : Nat) : Int)
/-- Two numbers in an array. -/
def asP : AV → Option (Unit → Int × Int)
  | .agg (.pr .int .int) x => some x
  | .cells [.int a, .int b] => some fun _ => (a (), b ())
  | _ => none
def binF (T : Tab) (op : BinOp) (xt : TypeId) (X Y : AV) : Option (AV × Ob) :=
  match X, Y with
  | .int x, .int y => (match op with
    | .add => some (.int fun _ => x () + y (), some fun _ => inI (x () + y ()))
    | .sub => some (.int fun _ => x () - y (), some fun _ => inI (x () - y ()))
    | .mul => some (.int fun _ => x () * y (), some fun _ => inI (x () * y ()))
    | .quo => some (.int fun _ => (x ()).tdiv (y ()), some fun _ => y () ≠ 0 ∧ inI ((x ()).tdiv (y ())))
    | .rem => some (.int fun _ => (x ()).tmod (y ()), some fun _ => y () ≠ 0)
    | .eql => some (.bool fun _ => decide (x () = y ()), none)
    | .neq => some (.bool fun _ => !decide (x () = y ()), none)
    | .lss => some (.bool fun _ => decide (x () < y ()), none)
    | .leq => some (.bool fun _ => decide (x () ≤ y ()), none)
    | .gtr => some (.bool fun _ => decide (y () < x ()), none)
    | .geq => some (.bool fun _ => decide (y () ≤ x ()), none)
    | .shl => some (.int fun _ => x () * 2 ^ (min (y ()).toNat 64), some fun _ => 0 ≤ y () ∧ inI (x () * 2 ^ (min (y ()).toNat 64)))
    | .shr => some (.int fun _ => (x ()).fdiv (2 ^ (min (y ()).toNat 64)), some fun _ => 0 ≤ y ())
    | .and => some (.int fun _ => IntKind.i64.wrap (BitVec.ofInt 64 (x ()) &&& BitVec.ofInt 64 (y ())).toNat, none)
    | _ => none)
  | .u8 x, .u8 y => (match op with
    | .eql => some (.bool fun _ => decide (x () = y ()), none)
    | .neq => some (.bool fun _ => !decide (x () = y ()), none)
    | .lss => some (.bool fun _ => decide (x () < y ()), none)
    | .leq => some (.bool fun _ => decide (x () ≤ y ()), none)
    | .gtr => some (.bool fun _ => decide (y () < x ()), none)
    | .geq => some (.bool fun _ => decide (y () ≤ x ()), none)
    | _ => none)
  | .u64 x, .u64 y => (match op with
    | .shr => some (.u64 fun _ => (x ()).fdiv (2 ^ (min (y ()).toNat 64)), some fun _ => 0 ≤ y ())
    | .add => some (.u64 fun _ => x () + y (), some fun _ => in64 (x () + y ()))
    | .sub => some (.u64 fun _ => x () - y (), some fun _ => in64 (x () - y ()))
    | .and => some (.u64 fun _ => band (x ()) (y ()), some fun _ => in64 (x ()) ∧ in64 (y ()))
    | .or => some (.u64 fun _ => bor (x ()) (y ()), some fun _ => in64 (x ()) ∧ in64 (y ()))
    | .xor => some (.u64 fun _ => bxor (x ()) (y ()), some fun _ => in64 (x ()) ∧ in64 (y ()))
    | .andNot => some (.u64 fun _ => bandn (x ()) (y ()), some fun _ => in64 (x ()) ∧ in64 (y ()))
    | .eql => some (.bool fun _ => decide (x () = y ()), none)
    | .neq => some (.bool fun _ => !decide (x () = y ()), none)
    | .lss => some (.bool fun _ => decide (x () < y ()), none)
    | .leq => some (.bool fun _ => decide (x () ≤ y ()), none)
    | .gtr => some (.bool fun _ => decide (y () < x ()), none)
    | .geq => some (.bool fun _ => decide (y () ≤ x ()), none)
    | _ => none)
  | .u64 x, .int y => (match op with
    | .shl => some (.u64 fun _ => x () * 2 ^ (min (y ()).toNat 64), some fun _ => 0 ≤ y () ∧ in64 (x () * 2 ^ (min (y ()).toNat 64)))
    | .shr => some (.u64 fun _ => (x ()).fdiv (2 ^ (min (y ()).toNat 64)), some fun _ => 0 ≤ y ())
    | _ => none)
  | .str x, .str y => (match op with
    | .eql => some (.bool fun _ => (x ()).toList == (y ()).toList, none)
    | .neq => some (.bool fun _ => !((x ()).toList == (y ()).toList), none)
    | .lss => some (.bool fun _ => Op.bytesLess (x ()).toList (y ()).toList, none)
    | _ => none)
  | X, Y => (match (tl T xt).und with
    | .bool => (match asB X, asB Y with
      | some x, some y => (match op with
        | .eql => some (.bool fun _ => x () == y (), none)
        | .neq => some (.bool fun _ => !(x () == y ()), none)
        | _ => none)
      | _, _ => none)
    | .array n e => (match (tl T e).und, asP X, asP Y with
      | .int _, some x, some y => if (n == 2 && (tl T e).size == 1) = true then (match op with
        | .eql => some (.bool fun _ => decide (x () = y ()), none)
        | .neq => some (.bool fun _ => !decide (x () = y ()), none)
        | _ => none) else none
      | _, _, _ => none)
    | _ => none)
section
variable {P : Program} {T : Tab} {w : World} {ok : Nat → Prop} {N : Nat} {val : Nat → Bd}
theorem asB_rel {X : AV} {x : Unit → Bool} {v : Value} (h : asB X = some x) (hv : VRel ok w N val X v) : v = .bool (x ()) := by
  unfold asB at h
  split at h <;> cases h <;> simpa [VRel] using hv
theorem asP_rel {X : AV} {x : Unit → Int × Int} {v : Value} (h : asP X = some x) (hv : VRel ok w N val X v) : v = .agg #[.int .i64 (x ()).1, .int .i64 (x ()).2] := by
  unfold asP at h
  split at h
  · cases h
    simp only [VRel] at hv
    obtain ⟨cs, rfl, hr⟩ := hv
    have e := pair_cells hr
    subst e
    rfl
  · cases h
    simp only [VRel] at hv
    obtain ⟨cs, rfl, hl, _⟩ := hv
    match cs, hl with
    | [c, d], hl =>
      simp only [VRelL, VRel, and_true] at hl
      obtain ⟨rfl, rfl⟩ := hl
      rfl
    | [], hl => simp [VRelL] at hl
    | [_], hl => simp [VRelL] at hl
    | _ :: _ :: _ :: _, hl => simp [VRelL] at hl
  · cases h
theorem wrap_in {x : Int} (h : inI x) : IntKind.i64.wrap x = x := by
  unfold inI at h
  rw [IntKind.wrap_i64]; omega
theorem wrap64 {x : Int} (h : in64 x) : IntKind.u64.wrap x = x := by
  have h2 : (2 : Int) ^ IntKind.u64.bits = 18446744073709551616 := by decide
  obtain ⟨h0, h1⟩ := h
  unfold IntKind.wrap
  simp only [IntKind.signed, h2]
  have : x % 18446744073709551616 = x := by omega
  simp [this]
theorem nat64 {x : Int} (h : in64 x) : (BitVec.ofInt 64 x).toNat = x.toNat := by
  obtain ⟨h0, h1⟩ := h
  rw [BitVec.toNat_ofInt]
  have : x % ((2 ^ 64 : Nat) : Int) = x := by
    apply Int.emod_eq_of_lt h0
    show x < 18446744073709551616
    omega
  rw [this]
theorem lt64 {x : Int} (h : in64 x) : x.toNat < 2 ^ 64 := by
  obtain ⟨h0, h1⟩ := h
  show x.toNat < 18446744073709551616
  omega
theorem in64_nat {n : Nat} (h : n < 2 ^ 64) : in64 (n : Int) := by
  have : n < 18446744073709551616 := h
  unfold in64; omega
theorem band_eq {x y : Int} (hx : in64 x) (hy : in64 y) : IntKind.u64.wrap ((BitVec.ofInt 64 x &&& BitVec.ofInt 64 y).toNat : Int) = band x y := by
  rw [BitVec.toNat_and, nat64 hx, nat64 hy]
  exact wrap64 (in64_nat (Nat.and_lt_two_pow _ (lt64 hy)))
theorem bor_eq {x y : Int} (hx : in64 x) (hy : in64 y) : IntKind.u64.wrap ((BitVec.ofInt 64 x ||| BitVec.ofInt 64 y).toNat : Int) = bor x y := by
  rw [BitVec.toNat_or, nat64 hx, nat64 hy]
  exact wrap64 (in64_nat (Nat.or_lt_two_pow (lt64 hx) (lt64 hy)))
theorem bxor_eq {x y : Int} (hx : in64 x) (hy : in64 y) : IntKind.u64.wrap ((BitVec.ofInt 64 x ^^^ BitVec.ofInt 64 y).toNat : Int) = bxor x y := by
  rw [BitVec.toNat_xor, nat64 hx, nat64 hy]
  exact wrap64 (in64_nat (Nat.xor_lt_two_pow (lt64 hx) (lt64 hy)))
theorem bandn_eq {x y : Int} (hx : in64 x) (hy : in64 y) : IntKind.u64.wrap ((BitVec.ofInt 64 x &&& ~~~BitVec.ofInt 64 y).toNat : Int) = bandn x y := by
  rw [BitVec.toNat_and, BitVec.toNat_not, nat64 hx, nat64 hy]
  have h2 := lt64 hy
  exact wrap64 (in64_nat (Nat.and_lt_two_pow _ (by omega)))
theorem run64 {P : Program} {w : World} (op : BinOp) (xt : TypeId) (x y : Operand) {p q : Int} {v : Value} (h : (binOp op xt (.int .u64 p) (.int .u64 q)).run P w = .ok v w) : ((do eqGuard op xt x y (.int .u64 p) (.int .u64 q); binOp op xt (.int .u64 p) (.int .u64 q) : Sem Value)).run P w = .ok v w := by
  have := eqGuard_plain (P := P) (w := w) op xt x y (a := .int .u64 p) (b := .int .u64 q) (.inl ⟨_, _, rfl⟩)
  simp [this, h]
theorem bin_sound (hT : TOk P T) (op : BinOp) (xt : TypeId) (x y : Operand) {X Y V : AV} {O : Ob} {a b : Value} (hx : VRel ok w N val X a) (hy : VRel ok w N val Y b) (h : binF T op xt X Y = some (V, O)) (hO : O.holds) :
    ∃ v, ((do eqGuard op xt x y a b; binOp op xt a b : Sem Value)).run P w = .ok v w ∧ VRel ok w N val V v := by
  unfold binF at h
  split at h
  · rename_i p q
    simp only [VRel] at hx hy
    have key : ∀ (V1 : Abs.AV), binV P op xt (.int (p ())) (.int (q ())) V1 → (∀ v, Abs.VRel ok w 0 (fun _ => undef) V1 v → VRel ok w N val V v) → ∃ v, ((do eqGuard op xt x y a b; binOp op xt a b : Sem Value)).run P w = .ok v w ∧ VRel ok w N val V v := fun V1 h1 h2 => by
      obtain ⟨v, k1, k2⟩ := bin_ok (P := P) (w := w) (ok := ok) (N := 0) (val := fun _ => undef) op xt x y (X := .int (p ())) (Y := .int (q ())) (V := V1) hx hy h1
      exact ⟨v, k1, h2 v k2⟩
    cases op <;> simp only [Option.some.injEq, Prod.mk.injEq] at h <;> (try (cases h; done)) <;> obtain ⟨rfl, rfl⟩ := h
    case quo => exact key _ ⟨hO.1, rfl⟩ fun v hv => by rw [wrap_in hO.2] at hv; simp only [VRel]; exact hv
    case rem => exact key _ ⟨hO, rfl⟩ fun v hv => by simp only [VRel]; exact hv
    case shl => exact key _ ⟨hO.1, rfl⟩ fun v hv => by rw [wrap_in hO.2] at hv; simp only [VRel]; exact hv
    case shr => exact key _ ⟨hO, rfl⟩ fun v hv => by simp only [VRel]; exact hv
    case add => exact key _ rfl fun v hv => by rw [wrap_in hO] at hv; simp only [VRel]; exact hv
    case sub => exact key _ rfl fun v hv => by rw [wrap_in hO] at hv; simp only [VRel]; exact hv
    case mul => exact key _ rfl fun v hv => by rw [wrap_in hO] at hv; simp only [VRel]; exact hv
    case and => exact key _ rfl fun v hv => by simp only [VRel]; exact hv
    case eql => exact key _ rfl fun v hv => by have hv' : v = .bool (p () == q ()) := hv; simp only [VRel]; rw [hv']; rfl
    case neq => exact key _ rfl fun v hv => by have hv' : v = .bool (p () != q ()) := hv; simp only [VRel]; rw [hv']; rfl
    all_goals exact key _ rfl fun v hv => by simp only [VRel]; exact hv
  · rename_i p q
    simp only [VRel] at hx hy
    have key : ∀ (V1 : Abs.AV), binV P op xt (.u8 (p ())) (.u8 (q ())) V1 → (∀ v, Abs.VRel ok w 0 (fun _ => undef) V1 v → VRel ok w N val V v) → ∃ v, ((do eqGuard op xt x y a b; binOp op xt a b : Sem Value)).run P w = .ok v w ∧ VRel ok w N val V v := fun V1 h1 h2 => by
      obtain ⟨v, k1, k2⟩ := bin_ok (P := P) (w := w) (ok := ok) (N := 0) (val := fun _ => undef) op xt x y (X := .u8 (p ())) (Y := .u8 (q ())) (V := V1) hx hy h1
      exact ⟨v, k1, h2 v k2⟩
    cases op <;> simp only [Option.some.injEq, Prod.mk.injEq] at h <;> (try (cases h; done)) <;> obtain ⟨rfl, rfl⟩ := h
    case eql => exact key _ rfl fun v hv => by have hv' : v = .bool (p () == q ()) := hv; simp only [VRel]; rw [hv']; rfl
    case neq => exact key _ rfl fun v hv => by have hv' : v = .bool (p () != q ()) := hv; simp only [VRel]; rw [hv']; rfl
    all_goals exact key _ rfl fun v hv => by simp only [VRel]; exact hv
  · rename_i p q
    simp only [VRel] at hx hy
    subst hx hy
    cases op <;> simp only [Option.some.injEq, Prod.mk.injEq] at h <;> (try (cases h; done)) <;> obtain ⟨rfl, rfl⟩ := h
    case add => exact ⟨_, run64 _ _ _ _ (v := .int .u64 (p () + q ())) (by simp [binOp, Op.intArith, wrap64 (show in64 _ from hO)]), by simp only [VRel]⟩
    case sub => exact ⟨_, run64 _ _ _ _ (v := .int .u64 (p () - q ())) (by simp [binOp, Op.intArith, wrap64 (show in64 _ from hO)]), by simp only [VRel]⟩
    case and => exact ⟨_, run64 _ _ _ _ (v := .int .u64 (band (p ()) (q ()))) (by rw [← band_eq hO.1 hO.2]; rfl), by simp only [VRel]⟩
    case or => exact ⟨_, run64 _ _ _ _ (v := .int .u64 (bor (p ()) (q ()))) (by rw [← bor_eq hO.1 hO.2]; rfl), by simp only [VRel]⟩
    case xor => exact ⟨_, run64 _ _ _ _ (v := .int .u64 (bxor (p ()) (q ()))) (by rw [← bxor_eq hO.1 hO.2]; rfl), by simp only [VRel]⟩
    case andNot => exact ⟨_, run64 _ _ _ _ (v := .int .u64 (bandn (p ()) (q ()))) (by rw [← bandn_eq hO.1 hO.2]; rfl), by simp only [VRel]⟩
    case shr =>
      obtain ⟨v, k1, k2⟩ := bin_ok (P := P) (w := w) (ok := ok) (N := 0) (val := fun _ => undef) .shr xt x y (X := .u64 (p ())) (Y := .u64 (q ())) (V := .u64 ((p ()).fdiv (2 ^ (min (q ()).toNat 64)))) rfl rfl ⟨hO, rfl⟩
      exact ⟨v, k1, by simp only [VRel]; exact k2⟩
    case eql => exact ⟨_, run64 _ _ _ _ (v := .bool (decide (p () = q ()))) (by simp [binOp, Op.intCmp]; rfl), by simp only [VRel]⟩
    case neq => exact ⟨_, run64 _ _ _ _ (v := .bool (!decide (p () = q ()))) (by simp [binOp, Op.intCmp]; rfl), by simp only [VRel]⟩
    all_goals exact ⟨_, run64 _ _ _ _ (by first | rfl | simp [binOp, Op.intCmp]), by simp only [VRel]⟩
  · rename_i p q
    simp only [VRel] at hx hy
    subst hx hy
    cases op <;> simp only [Option.some.injEq, Prod.mk.injEq] at h <;> (try (cases h; done)) <;> obtain ⟨rfl, rfl⟩ := h
    case shl =>
      have h0 : 0 ≤ q () := hO.1
      refine ⟨.int .u64 (p () * 2 ^ (min (q ()).toNat 64)), ?_, by simp only [VRel]⟩
      have := eqGuard_plain (P := P) (w := w) .shl xt x y (a := .int .u64 (p ())) (b := .int .i64 (q ())) (.inl ⟨_, _, rfl⟩)
      simp [this, binOp, Op.shift, show ¬ q () < 0 by omega, IntKind.bits, wrap64 (show in64 _ from hO.2)]
    case shr =>
      have h0 : 0 ≤ q () := hO
      refine ⟨.int .u64 ((p ()).fdiv (2 ^ (min (q ()).toNat 64))), ?_, by simp only [VRel]⟩
      have := eqGuard_plain (P := P) (w := w) .shr xt x y (a := .int .u64 (p ())) (b := .int .i64 (q ())) (.inl ⟨_, _, rfl⟩)
      simp [this, binOp, Op.shift, show ¬ q () < 0 by omega, IntKind.bits]
  · rename_i p q
    simp only [VRel] at hx hy
    have key : ∀ (V1 : Abs.AV), binV P op xt (.str (p ())) (.str (q ())) V1 → (∀ v, Abs.VRel ok w 0 (fun _ => undef) V1 v → VRel ok w N val V v) → ∃ v, ((do eqGuard op xt x y a b; binOp op xt a b : Sem Value)).run P w = .ok v w ∧ VRel ok w N val V v := fun V1 h1 h2 => by
      obtain ⟨v, k1, k2⟩ := bin_ok (P := P) (w := w) (ok := ok) (N := 0) (val := fun _ => undef) op xt x y (X := .str (p ())) (Y := .str (q ())) (V := V1) hx hy h1
      exact ⟨v, k1, h2 v k2⟩
    cases op <;> simp only [Option.some.injEq, Prod.mk.injEq] at h <;> (try (cases h; done)) <;> obtain ⟨rfl, rfl⟩ := h
    all_goals exact key _ rfl fun v hv => by simp only [VRel]; exact hv
  · split at h
    · rename_i hu
      split at h
      · rename_i ha hb
        have h1 := asB_rel ha hx
        have h2 := asB_rel hb hy
        have hu' := hT.bool hu
        cases op <;> simp only [Option.some.injEq, Prod.mk.injEq] at h <;> (try (cases h; done)) <;> obtain ⟨rfl, rfl⟩ := h
        · obtain ⟨v, k1, k2⟩ := bin_ok (P := P) (w := w) (ok := ok) (N := 0) (val := fun _ => undef) .eql xt x y (X := .bool _) (Y := .bool _) (V := .bool _) h1 h2 ⟨hu', rfl⟩
          exact ⟨v, k1, by simp only [VRel]; exact k2⟩
        · obtain ⟨v, k1, k2⟩ := bin_ok (P := P) (w := w) (ok := ok) (N := 0) (val := fun _ => undef) .neq xt x y (X := .bool _) (Y := .bool _) (V := .bool _) h1 h2 ⟨hu', rfl⟩
          exact ⟨v, k1, by simp only [VRel]; exact k2⟩
      · cases h
    · rename_i n e hu
      split at h
      · rename_i k p q hk ha hb
        split at h
        · rename_i hc
          simp only [Bool.and_eq_true, beq_iff_eq] at hc
          obtain ⟨rfl, hs⟩ := hc
          have hz := (hT.of hk (by simp)).size
          rw [hs] at hz
          have h1 := asP_rel ha hx
          have h2 := asP_rel hb hy
          subst h1 h2
          have key := run_cmp2 (w := w) x y (hT.array hu) (hT.int hk) hz (p ()) (q ())
          cases op <;> simp only [Option.some.injEq, Prod.mk.injEq] at h <;> (try (cases h; done)) <;> obtain ⟨rfl, rfl⟩ := h
          · exact ⟨_, key.1, by simp only [VRel]⟩
          · exact ⟨_, key.2, by simp only [VRel]⟩
        · cases h
      · cases h
    · cases h
theorem injT_rel {t : Ty} {x : Unit → t.den} {v : Value} (h : IRel ok w t (x ()) v) : VRel ok w N val (injT t x) v := by
  cases t with
  | pr a b => simp only [injT, VRel]; exact (by simpa [IRel, Ty.isPr] using h : ∃ cs : List Value, v = .agg cs.toArray ∧ Rep ok w (.pr a b) (x ()) cs)
  | int => simp [IRel, Ty.isPr] at h; unfold Rep at h; simp at h; simpa [injT, VRel] using h
  | bool => simp [IRel, Ty.isPr] at h; unfold Rep at h; simp at h; simpa [injT, VRel] using h
  | ar k t => simp only [injT, VRel]; exact (by simpa [IRel, Ty.isPr] using h : ∃ cs : List Value, v = .agg cs.toArray ∧ Rep ok w (.ar k t) (x ()) cs)
  | u64 => simp [IRel, Ty.isPr] at h; unfold Rep at h; simp at h; simpa [injT, VRel] using h
  | str => simp [IRel, Ty.isPr] at h; unfold Rep at h; simp at h; simpa [injT, VRel] using h
  | sl t => simp [IRel, Ty.isPr] at h; simpa [injT, VRel] using h
theorem cvv_rel (v : Value) : VRel ok w N val (cvv v) v := by
  unfold cvv
  split <;> (try split) <;> simp only [VRel]
  rename_i vs h
  have : vs = #[] := Array.eq_empty_of_size_eq_zero h
  subst this; rfl
theorem Rl.ev {w0 : World} {B : Nat → Prop} {hd : Nat → Value} {S : AS} {a : Act} (h : Rl w0 B hd S a w val) (x : Operand) : VRel (okF S.H val) w S.H.length val (S.ev x) (a.eval x) := by
  cases x with
  | tmp t => exact h.tmps t
  | const v => exact cvv_rel v
  | global g => simp [AS.ev, VRel]
  | func f => simp only [AS.ev, VRel]; exact ⟨[], rfl, by simp [VRelL]⟩
end
end Go.Proofs.Ytemdajfcfmefnaa.M
/- What an operation that makes no memory yields, by reckoning, and that it does. -/
namespace Go.Proofs.Ytemdajfcfmefnaa.M
open Go.RowKit Abs
set_option linter.unusedVariables false
set_option linter.unusedSimpArgs false

def compU : (t : Ty) → (Unit → t.den) → Nat → Nat → Option ((t : Ty) × (Unit → t.den))
  | .pr a b, x, off, sz => if (off == 0 && sz == a.n + b.n) = true then some ⟨.pr a b, x⟩ else if ((off + sz).ble a.n) = true then compU a (fun _ => (x ()).1) off sz else if (a.n.ble off) = true then compU b (fun _ => (x ()).2) (off - a.n) sz else none
  | .int, x, off, sz => if (off == 0 && sz == 1) = true then some ⟨.int, x⟩ else none
  | .bool, x, off, sz => if (off == 0 && sz == 1) = true then some ⟨.bool, x⟩ else none
  | .str, x, off, sz => if (off == 0 && sz == 1) = true then some ⟨.str, x⟩ else none
  | .u64, x, off, sz => if (off == 0 && sz == 1) = true then some ⟨.u64, x⟩ else none
  | .sl t, x, off, sz => if (off == 0 && sz == 1) = true then some ⟨.sl t, x⟩ else none
  | .ar k t, x, off, sz => if (off == 0 && sz == (k + 1) * t.n) = true then some ⟨.ar k t, x⟩ else none
theorem compU_comp : ∀ {t : Ty} {x : Unit → t.den} {off sz : Nat} {c : (t : Ty) × (Unit → t.den)}, compU t x off sz = some c → comp t (x ()) off sz = some ⟨c.1, c.2 ()⟩
  | .pr a b, x, off, sz, c, h => by
    unfold compU at h
    unfold comp
    cases h1 : (off == 0 && sz == a.n + b.n) with
    | true =>
      rw [h1] at h; simp only [↓reduceIte] at h; cases h
      simp only [Bool.and_eq_true, beq_iff_eq] at h1
      rw [if_pos h1]
    | false =>
      rw [h1] at h; simp only [Bool.false_eq_true, ↓reduceIte] at h
      have h1' : ¬ (off = 0 ∧ sz = a.n + b.n) := fun k => by simp [k.1, k.2] at h1
      rw [if_neg h1']
      cases h2 : (off + sz).ble a.n with
      | true =>
        rw [h2] at h; simp only [↓reduceIte] at h
        rw [if_pos (Nat.le_of_ble_eq_true h2)]
        exact compU_comp h
      | false =>
        rw [h2] at h; simp only [Bool.false_eq_true, ↓reduceIte] at h
        rw [if_neg (fun k => by rw [Nat.ble_eq_true_of_le k] at h2; cases h2)]
        cases h3 : a.n.ble off with
        | true =>
          rw [h3] at h; simp only [↓reduceIte] at h
          rw [if_pos (Nat.le_of_ble_eq_true h3)]
          exact compU_comp h
        | false => rw [h3] at h; cases h
  | .int, x, off, sz, c, h => by
    unfold compU at h; unfold comp
    cases h1 : (off == 0 && sz == 1) with
    | true => rw [h1] at h; cases h; simp only [Bool.and_eq_true, beq_iff_eq] at h1; rw [if_pos h1]
    | false => rw [h1] at h; cases h
  | .bool, x, off, sz, c, h => by
    unfold compU at h; unfold comp
    cases h1 : (off == 0 && sz == 1) with
    | true => rw [h1] at h; cases h; simp only [Bool.and_eq_true, beq_iff_eq] at h1; rw [if_pos h1]
    | false => rw [h1] at h; cases h
  | .str, x, off, sz, c, h => by
    unfold compU at h; unfold comp
    cases h1 : (off == 0 && sz == 1) with
    | true => rw [h1] at h; cases h; simp only [Bool.and_eq_true, beq_iff_eq] at h1; rw [if_pos h1]
    | false => rw [h1] at h; cases h
  | .u64, x, off, sz, c, h => by
    unfold compU at h; unfold comp
    cases h1 : (off == 0 && sz == 1) with
    | true => rw [h1] at h; cases h; simp only [Bool.and_eq_true, beq_iff_eq] at h1; rw [if_pos h1]
    | false => rw [h1] at h; cases h
  | .sl t, x, off, sz, c, h => by
    unfold compU at h; unfold comp
    cases h1 : (off == 0 && sz == 1) with
    | true => rw [h1] at h; cases h; simp only [Bool.and_eq_true, beq_iff_eq] at h1; rw [if_pos h1]
    | false => rw [h1] at h; cases h
  | .ar k t, x, off, sz, c, h => by
    unfold compU at h; unfold comp
    cases h1 : (off == 0 && sz == (k + 1) * t.n) with
    | true => rw [h1] at h; cases h; simp only [Bool.and_eq_true, beq_iff_eq] at h1; rw [if_pos h1]
    | false => rw [h1] at h; cases h

def at2 (p : Int × Int) (k : Int) : Int := if k = 0 then p.1 else p.2
def pickF (c a b : AV) : Option (AV × Ob) :=
  match c with
  | .lit true => some (a, none)
  | .lit false => some (b, none)
  | .bool c => (match a, b with
    | .int x, .int y => some (.int fun _ => if c () then x () else y (), none)
    | a, b => (match asB a, asB b with
      | some x, some y => some (.bool fun _ => if c () then x () else y (), none)
      | _, _ => none))
  | _ => none
def unF (op : UnOp) (x : AV) : Option (AV × Ob) :=
  match op, x with
  | .not, .lit b => some (.lit (!b), none)
  | .not, .bool b => some (.bool fun _ => !(b ()), none)
  | .neg, .int k => some (.int fun _ => 0 - k (), some fun _ => inI (0 - k ()))
  | _, _ => none
def loadF (T : Tab) (H : Hp) (t : TypeId) (x : AV) : Option (AV × Ob) :=
  match x with
  | .iptr tt x => (match (tl T t).ty with
    | some tt' => (castT tt tt' x).map fun y => (injT tt' y, none)
    | none => none)
  | .ptr n i => (match H[n]? with
    | some (some (.box _ cs)) => if ((tl T t).agg) = true then (if ((i + (tl T t).size).ble cs.length) = true then some (.cells ((cs.drop i).take (tl T t).size), none) else none) else
        if ((tl T t).size == 1) = true then (cs[i]?).map fun y => (y, none) else none
    | _ => none)
  | .ibox cs i => if ((tl T t).agg) = true then (if ((i + (tl T t).size).ble cs.length) = true then some (.cells ((cs.drop i).take (tl T t).size), none) else none) else
        if ((tl T t).size == 1) = true then (cs[i]?).map fun y => (y, none) else none
  | .eptr n i k => (match H[n]? with
    | some (some (.row _ tt l)) => if (k == tt.n) = true then (match (tl T t).ty with
      | some tt' => (castT tt tt' fun _ => getI tt (l ()) (i ())).map fun y => (injT tt' y, none)
      | none => none) else none
    | some (some (.rows _ _ _ _)) => if (k == 1 && (tl T t).size == 1 && !(tl T t).agg) = true then some (.elem n i, none) else none
    | some (some (.arr _ q tt l)) => if (k == tt.n) = true then (match (tl T t).ty with
      | some tt' => (castT tt tt' fun _ => getI tt (l ()) (i ())).map fun y => (injT tt' y, none)
      | none => none) else if (k == 0) = true then (match (tl T t).ty with
      | some tt' => (castT (.ar q tt) tt' l).map fun y => (injT tt' y, none)
      | none => none) else none
    | _ => none)
  | .eelem n i j k => (match H[n]? with
    | some (some (.rows _ _ tt l)) => if (k == tt.n) = true then (match (tl T t).ty with
      | some tt' => (castT tt tt' fun _ => getI tt (getR tt (l ()) (i ())) (j ())).map fun y => (injT tt' y, none)
      | none => none) else none
    | _ => none)
  | _ => none
def idxF (T : Tab) (H : Hp) (t : TypeId) (x i : AV) : Option (AV × Ob) :=
  match i with
  | .int k => (match (tl T t).und, x with
    | .slice e, .sl tt l => if ((tl T e).size == tt.n) = true then some (.iptr tt fun _ => getI tt (l ()) (k ()), some fun _ => 0 ≤ k () ∧ k () < ((l ()).length : Int)) else none
    | .slice e, .ref n => (match H[n]? with
      | some (some (.row _ tt l)) => if ((tl T e).size == tt.n) = true then some (.eptr n k tt.n, some fun _ => 0 ≤ k () ∧ k () < ((l ()).length : Int)) else none
      | some (some (.rows _ _ tt l)) => if ((tl T e).size == 1) = true then some (.eptr n k 1, some fun _ => 0 ≤ k () ∧ k () < ((l ()).length : Int)) else none
      | some (some (.rowsH _ _ tt l _)) => if ((tl T e).size == 1) = true then some (.eptr n k 1, some fun _ => 0 ≤ k () ∧ k () < ((l ()).length : Int)) else none
      | _ => none)
    | .slice e, .elem n i => (match H[n]? with
      | some (some (.rows _ _ tt l)) => if ((tl T e).size == tt.n) = true then some (.eelem n i k tt.n, some fun _ => 0 ≤ k () ∧ k () < ((getR tt (l ()) (i ())).length : Int)) else none
      | _ => none)
    | .array len e, .ptr n j => if ((tl T e).size == 0) = true then none else some (.ptr n (j + (k ()).toNat * (tl T e).size), some fun _ => 0 ≤ k () ∧ k () < (len : Int))
    | .array len e, .ibox cs j => if ((tl T e).size == 0) = true then none else some (.ibox cs (j + (k ()).toNat * (tl T e).size), some fun _ => 0 ≤ k () ∧ k () < (len : Int))
    | .array 2 e, .iptr (.pr .int .int) d => if ((tl T e).size == 1) = true then some (.iptr .int fun _ => at2 (d ()) (k ()), some fun _ => 0 ≤ k () ∧ k () < 2) else none
    | .array len e, .iptr (.ar q tt) d => if ((tl T e).size == tt.n && len == q + 1) = true then some (.iptr tt fun _ => getI tt (d ()) (k ()), some fun _ => 0 ≤ k () ∧ k () < (len : Int)) else none
    | .array len e, .eptr n _ 0 => (match H[n]? with
      | some (some (.arr _ q tt l)) => if ((tl T e).size == tt.n && len == q + 1) = true then some (.eptr n k tt.n, some fun _ => 0 ≤ k () ∧ k () < (len : Int)) else none
      | _ => none)
    | _, _ => none)
  | _ => none
def fldF (T : Tab) (s : TypeId) (x : AV) (f : Nat) : Option (AV × Ob) :=
  match (tl T s).und with
  | .struct fs => (match fs[f]? with
    | some (off, ft) => if ((tl T ft).size == 0) = true then none else (match x with
      | .ptr n j => some (.ptr n (j + off), none)
      | .ibox cs j => some (.ibox cs (j + off), none)
      | .iptr tt d => (compU tt d off (tl T ft).size).map fun c => (.iptr c.1 c.2, none)
      | _ => none)
    | none => none)
  | _ => none
def fieldF (T : Tab) (xt : TypeId) (x : AV) (f : Nat) : Option (AV × Ob) :=
  match (tl T xt).und with
  | .struct fs => (match fs[f]? with
    | some (off, ft) => (match x with
      | .agg tt d => (match compU tt d off (tl T ft).size, (tl T ft).ty with
        | some c, some tt' => (castT c.1 tt' c.2).map fun y => (injT tt' y, none)
        | _, _ => none)
      | .cells l => if ((off + (tl T ft).size).ble l.length) = true then (if ((tl T ft).agg) = true then some (.cells ((l.drop off).take (tl T ft).size), none) else if ((tl T ft).size == 1) = true then (l[off]?).map fun y => (y, none) else none) else none
      | _ => none)
    | none => none)
  | _ => none
def indexF (T : Tab) (xt : TypeId) (x i : AV) : Option (AV × Ob) :=
  match x, i with
  | .agg (.pr .int .int) d, .int k => (match (tl T xt).und with
    | .array 2 e => (match (tl T e).ty with
      | some .int => some (.int fun _ => at2 (d ()) (k ()), some fun _ => 0 ≤ k () ∧ k () < 2)
      | _ => none)
    | _ => none)
  | .cells l, .int k => (match (tl T xt).und with
    | .array len e => if ((tl T e).size == 1 && !(tl T e).agg && l.length == len) = true then (l[(k ()).toNat]?).map fun y => (y, some fun _ => 0 ≤ k () ∧ k () < (len : Int)) else none
    | _ => none)
  | .str s, .int k => (match (tl T xt).und with
    | .string => some (.u8 fun _ => ((s ())[(k ()).toNat]?.getD 0).toNat, some fun _ => 0 ≤ k () ∧ k () < ((s ()).size : Int))
    | _ => none)
  | _, _ => none
def optU (S : AS) : Option Operand → Option (Option (Unit → Int))
  | none => some none
  | some x => (match S.ev x with
    | .int k => some (some k)
    | _ => none)
def subL {α : Type} (l : List α) (lo hi : Int) : List α := (l.take hi.toNat).drop lo.toNat
def sliceF (T : Tab) (S : AS) (xt : TypeId) (x : AV) (lo hi : Option Operand) : Option (AV × Ob) :=
  match (tl T xt).und, x, optU S lo, optU S hi with
  | .slice e, .sl tt l, some lo', some hi' => if ((tl T e).size == tt.n) = true then (match lo', hi' with
    | none, none => some (.sl tt fun _ => subL (l ()) 0 (l ()).length, none)
    | some a, none => some (.sl tt fun _ => subL (l ()) (a ()) (l ()).length, some fun _ => 0 ≤ a () ∧ a () ≤ ((l ()).length : Int))
    | none, some b => some (.sl tt fun _ => subL (l ()) 0 (b ()), some fun _ => 0 ≤ b () ∧ b () ≤ ((l ()).length : Int))
    | some a, some b => some (.sl tt fun _ => subL (l ()) (a ()) (b ()), some fun _ => 0 ≤ a () ∧ a () ≤ b () ∧ b () ≤ ((l ()).length : Int))) else none
  | .array 2 e, .iptr (.pr .int .int) d, some none, some none => if ((tl T e).size == 1) = true then some (.sl .int fun _ => [(d ()).1, (d ()).2], none) else none
  | .array len e, .eptr n _ 0, some none, some hi' => (match S.H[n]? with
    | some (some (.arr _ q tt l)) => if ((tl T e).size == tt.n && len == q + 1) = true then (match hi' with
      | none => some (.sub n (fun _ => 0) (fun _ => ((l ()).length : Int)) tt.n, none)
      | some b => some (.sub n (fun _ => 0) b tt.n, some fun _ => 0 ≤ b () ∧ b () ≤ ((l ()).length : Int))) else none
    | _ => none)
  | .slice e, .ref n, some lo', some hi' => (match S.H[n]? with
    | some (some (.row _ tt l)) => if ((tl T e).size == tt.n) = true then (match lo', hi' with
      | none, none => some (.sub n (fun _ => 0) (fun _ => ((l ()).length : Int)) tt.n, none)
      | some a, none => some (.sub n a (fun _ => ((l ()).length : Int)) tt.n, some fun _ => 0 ≤ a () ∧ a () ≤ ((l ()).length : Int))
      | none, some b => some (.sub n (fun _ => 0) b tt.n, some fun _ => 0 ≤ b () ∧ b () ≤ ((l ()).length : Int))
      | some a, some b => some (.sub n a b tt.n, some fun _ => 0 ≤ a () ∧ a () ≤ b () ∧ b () ≤ ((l ()).length : Int))) else none
    | _ => none)
  | _, _, _, _ => none
def lenF (T : Tab) (H : Hp) (t : TypeId) (x : AV) : Option (AV × Ob) :=
  match (tl T t).und, x with
  | .slice e, .sl _ l => some (.int fun _ => ((l ()).length : Int), none)
  | .slice e, .nilsl => some (.int fun _ => 0, none)
  | .slice e, .ref n => (match H[n]? with
    | some (some (.row _ _ l)) => some (.int fun _ => ((l ()).length : Int), none)
    | some (some (.rows _ _ _ l)) => some (.int fun _ => ((l ()).length : Int), none)
    | _ => none)
  | .slice e, .elem n i => (match H[n]? with
    | some (some (.rows _ _ t l)) => some (.int fun _ => ((getR t (l ()) (i ())).length : Int), none)
    | _ => none)
  | .string, .str s => some (.int fun _ => ((s ()).size : Int), none)
  | .slice e, .sub n lo hi k => some (.int fun _ => hi () - lo (), none)
  | _, _ => none
def convF (T : Tab) (src dst : TypeId) (x : AV) : Option (AV × Ob) :=
  match (tl T src).und, x, (tl T dst).und with
  | .int .i64, .int k, .int .i64 => some (.int k, some fun _ => inI (k ()))
  | .int .i64, .int k, .int .u64 => some (.u64 k, some fun _ => 0 ≤ k () ∧ k () ≤ 9223372036854775807)
  | .int .u8, .u8 k, .int .i64 => some (.int k, some fun _ => inI (k ()))
  | .int .u64, .u64 k, .int .i64 => some (.int k, some fun _ => inI (k ()))
  | .int .u64, .u64 k, .int .u64 => some (.u64 k, some fun _ => in64 (k ()))
  | _, _, _ => none
def bltF (T : Tab) (S : AS) (b : Builtin) (ts : List TypeId) (xs : List Operand) : Option (AV × Ob) :=
  match b with
  | .len => (match xs with
    | [x] => (match ts with | t :: _ => lenF T S.H t (S.ev x) | _ => none)
    | _ => none)
  | .min => (match xs with
    | [x, y] => (match S.ev x, S.ev y with | .int a, .int b => some (.int fun _ => if b () < a () then b () else a (), none) | _, _ => none)
    | _ => none)
  | .max => (match xs with
    | [x, y] => (match S.ev x, S.ev y with | .int a, .int b => some (.int fun _ => if a () < b () then b () else a (), none) | _, _ => none)
    | _ => none)
  | _ => none
def qv0 (T : Tab) (S : AS) (o : Oper) : Option (AV × Ob) :=
  match o.op with
  | .move x => some (S.ev x, none)
  | .assign x => some (S.ev x, none)
  | .pick c a b => pickF (S.ev c) (S.ev a) (S.ev b)
  | .nilCheck x => (match S.ev x with | .ptr n i => some (.ptr n i, none) | .iptr t d => some (.iptr t d, none) | .eptr n i k => some (.eptr n i k, none) | .eelem n i j k => some (.eelem n i j k, none) | .ibox cs i => some (.ibox cs i, none) | _ => none)
  | .binOp op xt x y _ => binF T op xt (S.ev x) (S.ev y)
  | .unOp op _ x => unF op (S.ev x)
  | .load t a => loadF T S.H t (S.ev a)
  | .indexAddr t x i => idxF T S.H t (S.ev x) (S.ev i)
  | .fieldAddr s x f => fldF T s (S.ev x) f
  | .field xt x f => fieldF T xt (S.ev x) f
  | .index xt x i => indexF T xt (S.ev x) (S.ev i)
  | .extract t i => (match S.ev t with | .tup l => (l[i]?).map fun y => (y, none) | _ => none)
  | .slice xt x lo hi none => sliceF T S xt (S.ev x) lo hi
  | .makeFunc (.func f) first caps => if (first.size == 0) = true then some (.fn f (caps.toList.map S.ev), none) else none
  | .convert src dst x => convF T src dst (S.ev x)
  | .call c => (match c.callee with
    | .builtin b => bltF T S b c.argTypes.toList c.args.toList
    | _ => none)
  | _ => none
/-- A struct of a number and an array of numbers, as one array of numbers. -/
def loadS (T : Tab) (H : Hp) (t : TypeId) (x : AV) : Option (AV × Ob) :=
  match x with
  | .eptr n i k => (match H[n]? with
    | some (some (.arr _ q .int l)) => (match (tl T t).ty with
      | some (.pr .int (.ar r .int)) => if (k == 0 && q == r + 1) = true then some (.agg (.pr .int (.ar r .int)) fun _ => (getI .int (l ()) 0, List.drop 1 (l ())), none) else none
      | some (.ar r .int) => if (k == 1) = true then some (.agg (.ar r .int) fun _ => List.take (r + 1) (List.drop (i ()).toNat (l ())), some fun _ => i () + ((r + 1 : Nat) : Int) ≤ ((l ()).length : Int)) else none
      | _ => none)
    | _ => none)
  | .iptr (.ar q .int) d => (match (tl T t).ty with
    | some (.pr .int (.ar r .int)) => if (q == r + 1) = true then some (.agg (.pr .int (.ar r .int)) fun _ => (getI .int (d ()) 0, List.drop 1 (d ())), none) else none
    | _ => none)
  | _ => none
def idxS (T : Tab) (H : Hp) (t : TypeId) (x i : AV) : Option (AV × Ob) :=
  match x, i with
  | .eptr n j 1, .int k => (match H[n]?, (tl T t).und with
    | some (some (.arr _ q .int l)), .array len e => if ((tl T e).size == 1) = true then some (.eptr n (fun _ => j () + k ()) 1, some fun _ => 0 ≤ k () ∧ k () < (len : Int) ∧ j () + (len : Int) ≤ ((l ()).length : Int)) else none
    | _, _ => none)
  | _, _ => none
def fldS (T : Tab) (H : Hp) (s : TypeId) (x : AV) (f : Nat) : Option (AV × Ob) :=
  match x with
  | .eptr n _ 0 => (match H[n]?, (tl T s).und with
    | some (some (.arr _ q .int l)), .struct fs => (match fs[f]? with
      | some (off, ft) => if ((tl T ft).size == 0) = true then none else if (off.ble q) = true then some (.eptr n (fun _ => (off : Int)) 1, none) else none
      | none => none)
    | _, _ => none)
  | .iptr (.ar q .int) d => (match (tl T s).und with
    | .struct fs => (match fs[f]? with
      | some (off, ft) => if ((tl T ft).size == 0) = true then none else (match (tl T ft).ty with
        | some .int => if (off.ble q) = true then some (.iptr .int fun _ => getI .int (d ()) (off : Int), none) else none
        | some (.ar r .int) => if ((off + r).ble q) = true then some (.iptr (.ar r .int) fun _ => List.take (r + 1) (List.drop off (d ())), none) else none
        | _ => none)
      | none => none)
    | _ => none)
  | _ => none
def sliceS (T : Tab) (S : AS) (xt : TypeId) (x : AV) (lo hi : Option Operand) : Option (AV × Ob) :=
  match x, (tl T xt).und, optU S lo, optU S hi with
  | .eptr n i 1, .array len e, some none, some hi' => (match S.H[n]? with
    | some (some (.arr _ q .int l)) => if ((tl T e).size == 1) = true then (match hi' with
      | none => some (.sub n i (fun _ => i () + (len : Int)) 1, some fun _ => i () + (len : Int) = ((l ()).length : Int))
      | some b => some (.sub n i (fun _ => i () + b ()) 1, some fun _ => 0 ≤ b () ∧ b () ≤ (len : Int) ∧ i () + (len : Int) = ((l ()).length : Int))) else none
    | _ => none)
  | _, _, _, _ => none
def indexS (T : Tab) (xt : TypeId) (x i : AV) : Option (AV × Ob) :=
  match x, i with
  | .agg (.ar q .int) d, .int k => (match (tl T xt).und with
    | .array len e => (match (tl T e).ty with
      | some .int => if (len == q + 1 && !(q == 0)) = true then some (.int fun _ => getI .int (d ()) (k ()), some fun _ => 0 ≤ k () ∧ k () < (len : Int)) else none
      | _ => none)
    | _ => none)
  | _, _ => none
def qvS (T : Tab) (S : AS) (o : Oper) : Option (AV × Ob) :=
  match o.op with
  | .load t a => loadS T S.H t (S.ev a)
  | .indexAddr t x i => idxS T S.H t (S.ev x) (S.ev i)
  | .fieldAddr s x f => fldS T S.H s (S.ev x) f
  | .index xt x i => indexS T xt (S.ev x) (S.ev i)
  | .slice xt x lo hi none => sliceS T S xt (S.ev x) lo hi
  | .makeFunc (.func f) first caps => if (caps.size == 0 && (first.toList.map S.ev).all boundB) = true then some (.fnr f fun _ => ofBound (first.toList.map S.ev), none) else none
  | .makeInterface t x => (match (tl T t).und with
    | .struct _ => if (boundB (S.ev x)) = true then some (.ifr t fun _ => ofBound [S.ev x], none) else none
    | _ => none)
  | _ => none
/-- The box of a struct of three fields of which the last is not told: beside it a subtraction is told as it wraps. -/
def wrapMark : Hp → Bool
  | some (.box _ [.int _, .sl _ _, .junk]) :: _ => true
  | _ => false
def subW (H : Hp) (X Y : AV) : Option (AV × Ob) :=
  match X, Y with
  | .int x, .int y => if wrapMark H = true then some (.int fun _ => IntKind.i64.wrap (x () - y ()), none) else none
  | _, _ => none
def qvW (S : AS) (o : Oper) : Option (AV × Ob) :=
  match o.op with
  | .binOp .sub _ a b _ => subW S.H (S.ev a) (S.ev b)
  | _ => none
def qv (T : Tab) (S : AS) (o : Oper) : Option (AV × Ob) :=
  match qvW S o with
  | some r => some r
  | none => (match qv0 T S o with
    | some r => some r
    | none => qvS T S o)
end Go.Proofs.Ytemdajfcfmefnaa.M
/- An operation that makes no memory yields what is reckoned. -/
namespace Go.Proofs.Ytemdajfcfmefnaa.M
open Go.RowKit Abs
set_option linter.unusedVariables false
set_option linter.unusedSimpArgs false

section
variable {P : Program} {T : Tab} {w0 w : World} {B : Nat → Prop} {hd : Nat → Value} {S : AS} {a : Act} {val : Nat → Bd}
theorem EOk.of_size (hT : TOk P T) {t : TypeId} (h : (tl T t).size ≠ 0) : EOk P t (tl T t) := by
  rcases hT t with h1 | h1
  · rw [h1] at h; exact (h rfl).elim
  · exact h1
theorem EOk.of_agg (hT : TOk P T) {t : TypeId} (h : (tl T t).agg = true) : EOk P t (tl T t) := by
  rcases hT t with h1 | h1
  · rw [h1] at h; cases h
  · exact h1
theorem row_at {ok : Nat → Prop} {e : TypeId} {t : Ty} {l : List t.den} {v : Value} {xs : List Value} (h : w.ownsRow 0 e t.n v l.length xs) (hr : RepL ok w t l xs) {g len cap : Nat} (hv : v = .slice (some ⟨g, 0, none⟩) len cap) {i : Int} (h0 : 0 ≤ i) (h1 : i < (len : Int)) :
    len = l.length ∧ ∃ cs, Rep ok w t (getI t l i) cs ∧ ∀ j u, cs[j]? = some u → w.cell? ⟨g, i.toNat * t.n + j, none⟩ = some u := by
  rcases h.2 with ⟨h2, _⟩ | ⟨g', cap', cur, h2, h3, h4, h5⟩
  · rw [hv] at h2; cases h2
  · have h2' := h2
    rw [hv] at h2
    cases h2
    refine ⟨rfl, _, hr.2 _ _ (getI_get h0 h1), fun j u hu => ?_⟩
    rw [List.getElem?_take] at hu
    split at hu
    · rw [List.getElem?_drop] at hu
      have := h.cells (g := g) (by rw [h2']; rfl) _ u hu
      rw [Addr.add_lit] at this
      simpa using this
    · cases hu
theorem arr_at {ok : Nat → Prop} {w : World} {N : Nat} {val : Nat → Bd} {d : Bd} {e : TypeId} {q : Nat} {t : Ty} {l : Unit → List t.den} (h : BRel ok w N val d (.arr e q t l)) :
    ∃ g xs, d.v = .slice (some ⟨g, 0, none⟩) (q + 1) (q + 1) ∧ w.ownsRow 0 e t.n d.v (l ()).length xs ∧ RepL ok w t (l ()) xs ∧ (l ()).length = q + 1 ∧ Rep ok w (.ar q t) (l ()) xs ∧ ∀ j u, xs[j]? = some u → w.cell? ⟨g, 0 + j, none⟩ = some u := by
  obtain ⟨⟨xs, m1, m2, m3⟩, m4, g, m5⟩ := h
  refine ⟨g, xs, m5, m1, m2, m4, ?_, fun j u hu => ?_⟩
  · unfold Rep
    exact ⟨m4, by rw [m2.1, m4], m2.2⟩
  · have := m1.cells (g := g) (by rw [m5]; rfl) j u hu
    rw [Addr.add_lit] at this
    exact this
theorem load_sound (hT : TOk P T) (hR : Rl w0 B hd S a w val) {t : TypeId} {X V : AV} {O : Ob} {v : Value} (hx : VRel (okF S.H val) w S.H.length val X v) (h : loadF T S.H t X = some (V, O)) :
    ∃ u, (Instr.loadAt t v).run P w = .ok u w ∧ VRel (okF S.H val) w S.H.length val V u := by
  unfold loadF at h
  split at h
  · rename_i tt x
    simp only [VRel] at hx
    split at h
    · rename_i tt' hty
      simp only [Option.map_eq_some_iff, Prod.mk.injEq] at h
      obtain ⟨y, hy, rfl, rfl⟩ := h
      obtain ⟨b, o, cs, rfl, h2, h3, h4, h5⟩ := hx
      obtain ⟨_, hc⟩ := castT_rep (ok := okF S.H val) (w := w) hy
      obtain ⟨u, h6, h7⟩ := load_ok (hT.ty hty).1 (hc cs h4) h5
      exact ⟨u, h6, injT_rel h7⟩
    · cases h
  · rename_i n i
    simp only [VRel] at hx
    obtain ⟨hn, g, hv, rfl⟩ := hx
    split at h
    · rename_i e cs hH
      obtain ⟨g', cur, k1, k2, k3, k4, k5⟩ := hR.heap.blk n _ hH
      rw [hv] at k1
      cases k1
      cases hag : (tl T t).agg with
      | true =>
        rw [hag] at h
        simp only [↓reduceIte] at h
        cases hle : (i + (tl T t).size).ble cs.length with
        | true =>
          rw [hle] at h
          simp only [↓reduceIte, Option.some.injEq, Prod.mk.injEq] at h
          obtain ⟨rfl, rfl⟩ := h
          have hle' := Nat.le_of_ble_eq_true hle
          have hE := EOk.of_agg hT hag
          have hlen := k3.len
          have hs := run_sz (w := w) hE.size
          have ha := run_agg (w := w) (b := true) (by rw [hE.agg, hag])
          have hld := run_loadCells_list (P := P) w ⟨g, i, none⟩ ((cur.toList.drop i).take (tl T t).size) (fun j v hj => by
            rw [List.getElem?_take] at hj
            split at hj
            · rw [List.getElem?_drop] at hj
              rw [Addr.add_lit]
              simp [World.cell?, k2]
              simpa using hj
            · cases hj)
          have hl2 : ((cur.toList.drop i).take (tl T t).size).length = (tl T t).size := by
            rw [List.length_take, List.length_drop]; omega
          rw [hl2] at hld
          refine ⟨.agg ((cur.toList.drop i).take (tl T t).size).toArray, ?_, ?_⟩
          · unfold Instr.loadAt Instr.sureAddr loadVar
            simp [ha, hs, hld]
          · simp only [VRel]
            refine ⟨_, rfl, VRelL.of ?_ fun j x hj => ?_, fun u hu => k4 u (List.mem_of_mem_drop (List.mem_of_mem_take hu))⟩
            · rw [hl2, List.length_take, List.length_drop]; omega
            · rw [List.getElem?_take] at hj ⊢
              split at hj
              · rename_i hjl
                rw [List.getElem?_drop] at hj ⊢
                obtain ⟨u, hu, hr⟩ := k3.get hj
                exact ⟨u, by simpa [hjl] using hu, hr⟩
              · cases hj
        | false => rw [hle] at h; cases h
      | false =>
        rw [hag] at h
        simp only [Bool.false_eq_true, ↓reduceIte] at h
        cases hsz : ((tl T t).size == 1) with
        | true =>
          rw [hsz] at h
          simp only [↓reduceIte, Option.map_eq_some_iff, Prod.mk.injEq] at h
          obtain ⟨y, hy, rfl, rfl⟩ := h
          have hE := EOk.of_size hT (t := t) (by simp at hsz; omega)
          obtain ⟨u, hu, hr⟩ := k3.get hy
          refine ⟨u, ?_, hr⟩
          have hc : w.cell? ⟨g, i, none⟩ = some u := by simp [World.cell?, k2]; simpa using hu
          simp [Instr.loadAt, Instr.sureAddr, loadVar, run_agg (P := P) (w := w) (b := false) (by rw [hE.agg, hag]), hc]
        | false => rw [hsz] at h; cases h
    · cases h
  · rename_i cs i
    simp only [VRel] at hx
    obtain ⟨g, us, rfl, hok, hlt, hcell, k3, k4⟩ := hx
    cases hag : (tl T t).agg with
    | true =>
      rw [hag] at h
      simp only [↓reduceIte] at h
      cases hle : (i + (tl T t).size).ble cs.length with
      | true =>
        rw [hle] at h
        simp only [↓reduceIte, Option.some.injEq, Prod.mk.injEq] at h
        obtain ⟨rfl, rfl⟩ := h
        have hle' := Nat.le_of_ble_eq_true hle
        have hE := EOk.of_agg hT hag
        have hlen := k3.len
        have hs := run_sz (w := w) hE.size
        have ha := run_agg (w := w) (b := true) (by rw [hE.agg, hag])
        have hld := run_loadCells_list (P := P) w ⟨g, i, none⟩ ((us.drop i).take (tl T t).size) (fun j v hj => by
          rw [List.getElem?_take] at hj
          split at hj
          · rw [List.getElem?_drop] at hj
            rw [Addr.add_lit]
            exact hcell _ v hj
          · cases hj)
        have hl2 : ((us.drop i).take (tl T t).size).length = (tl T t).size := by
          rw [List.length_take, List.length_drop]; omega
        rw [hl2] at hld
        refine ⟨.agg ((us.drop i).take (tl T t).size).toArray, ?_, ?_⟩
        · unfold Instr.loadAt Instr.sureAddr loadVar
          simp [ha, hs, hld]
        · simp only [VRel]
          refine ⟨_, rfl, VRelL.of ?_ fun j x hj => ?_, fun u hu => k4 u (List.mem_of_mem_drop (List.mem_of_mem_take hu))⟩
          · rw [hl2, List.length_take, List.length_drop]; omega
          · rw [List.getElem?_take] at hj ⊢
            split at hj
            · rename_i hjl
              rw [List.getElem?_drop] at hj ⊢
              obtain ⟨u, hu, hr⟩ := k3.get hj
              exact ⟨u, by simpa [hjl] using hu, hr⟩
            · cases hj
      | false => rw [hle] at h; cases h
    | false =>
      rw [hag] at h
      simp only [Bool.false_eq_true, ↓reduceIte] at h
      cases hsz : ((tl T t).size == 1) with
      | true =>
        rw [hsz] at h
        simp only [↓reduceIte, Option.map_eq_some_iff, Prod.mk.injEq] at h
        obtain ⟨y, hy, rfl, rfl⟩ := h
        have hE := EOk.of_size hT (t := t) (by simp at hsz; omega)
        obtain ⟨u, hu, hr⟩ := k3.get hy
        exact ⟨u, by simp [Instr.loadAt, Instr.sureAddr, loadVar, run_agg (P := P) (w := w) (b := false) (by rw [hE.agg, hag]), hcell i u hu], hr⟩
      | false => rw [hsz] at h; cases h
  · rename_i n i k
    simp only [VRel] at hx
    obtain ⟨hn, g, len, cap, hv, h0, h1, rfl⟩ := hx
    split at h
    · rename_i e tt l hH
      cases hk : (k == tt.n) with
      | true =>
        rw [hk] at h
        simp only [↓reduceIte] at h
        simp only [beq_iff_eq] at hk
        subst hk
        split at h
        · rename_i tt' hty
          simp only [Option.map_eq_some_iff, Prod.mk.injEq] at h
          obtain ⟨y, hy, rfl, rfl⟩ := h
          obtain ⟨xs, k1, k2, k3⟩ := hR.heap.blk n _ hH
          obtain ⟨rfl, cs, hrep, hcell⟩ := row_at k1 k2 hv h0 h1
          obtain ⟨_, hc⟩ := castT_rep (ok := okF S.H val) (w := w) hy
          obtain ⟨u, h6, h7⟩ := load_ok (hT.ty hty).1 (hc cs hrep) hcell
          exact ⟨u, h6, injT_rel h7⟩
        · cases h
      | false => rw [hk] at h; cases h
    · rename_i e e2 tt l hH
      cases hk : (k == 1 && (tl T t).size == 1 && !(tl T t).agg) with
      | true =>
        rw [hk] at h
        simp only [↓reduceIte, Option.some.injEq, Prod.mk.injEq] at h
        obtain ⟨rfl, rfl⟩ := h
        simp only [Bool.and_eq_true, beq_iff_eq, Bool.not_eq_true'] at hk
        obtain ⟨⟨rfl, hs1⟩, hag⟩ := hk
        have hE := EOk.of_size hT (t := t) (by omega)
        obtain ⟨k1, k2, k3, k4⟩ := hR.heap.blk n _ hH
        rcases k1.2 with ⟨m1, _⟩ | ⟨g', cap', cur, m1, m2, m3, m4⟩
        · rw [hv] at m1; cases m1
        · have m1' := m1
          rw [hv] at m1
          cases m1
          have hhs : (val n).hs.length = (l ()).length := by have := k1.1; simpa using this
          obtain ⟨u, hu⟩ : ∃ u, (val n).hs[(i ()).toNat]? = some u := ⟨_, List.getElem?_eq_getElem (by omega)⟩
          have := k1.cells (g := g) (by rw [m1']; rfl) _ u hu
          rw [Addr.add_lit] at this
          refine ⟨u, ?_, by simp only [VRel]; exact ⟨hn, h0, hu⟩⟩
          have hc : w.cell? ⟨g, (i ()).toNat * 1, none⟩ = some u := by simpa using this
          simp [Instr.loadAt, Instr.sureAddr, loadVar, run_agg (P := P) (w := w) (b := false) (by rw [hE.agg, hag])]
          rw [Nat.mul_one] at hc
          rw [hc]
      | false => rw [hk] at h; cases h
    · rename_i e q tt l hH
      obtain ⟨g', xs, m1, m2, m3, m4, m5, m6⟩ := arr_at (hR.heap.blk n _ hH)
      cases hk : (k == tt.n) with
      | true =>
        rw [hk] at h
        simp only [↓reduceIte] at h
        simp only [beq_iff_eq] at hk
        subst hk
        split at h
        · rename_i tt' hty
          simp only [Option.map_eq_some_iff, Prod.mk.injEq] at h
          obtain ⟨y, hy, rfl, rfl⟩ := h
          obtain ⟨rfl, cs, hrep, hcell⟩ := row_at m2 m3 hv h0 h1
          obtain ⟨_, hc⟩ := castT_rep (ok := okF S.H val) (w := w) hy
          obtain ⟨u, h6, h7⟩ := load_ok (hT.ty hty).1 (hc cs hrep) hcell
          exact ⟨u, h6, injT_rel h7⟩
        · cases h
      | false =>
        rw [hk] at h
        simp only [Bool.false_eq_true, ↓reduceIte] at h
        cases hk0 : (k == 0) with
        | true =>
          rw [hk0] at h
          simp only [↓reduceIte] at h
          simp only [beq_iff_eq] at hk0
          subst hk0
          split at h
          · rename_i tt' hty
            simp only [Option.map_eq_some_iff, Prod.mk.injEq] at h
            obtain ⟨y, hy, rfl, rfl⟩ := h
            rw [hv] at m1
            cases m1
            obtain ⟨_, hc⟩ := castT_rep (ok := okF S.H val) (w := w) hy
            obtain ⟨u, h6, h7⟩ := load_ok (hT.ty hty).1 (hc xs m5) m6
            exact ⟨u, h6, injT_rel h7⟩
          · cases h
        | false => rw [hk0] at h; cases h
    · cases h
  · rename_i n i j k
    simp only [VRel] at hx
    obtain ⟨hn, h0, g, len, cap, hv, h1, h2, rfl⟩ := hx
    split at h
    · rename_i e e2 tt l hH
      cases hk : (k == tt.n) with
      | true =>
        rw [hk] at h
        simp only [↓reduceIte] at h
        simp only [beq_iff_eq] at hk
        subst hk
        split at h
        · rename_i tt' hty
          simp only [Option.map_eq_some_iff, Prod.mk.injEq] at h
          obtain ⟨y, hy, rfl, rfl⟩ := h
          obtain ⟨k1, k2, k3, k4⟩ := hR.heap.blk n _ hH
          have hhs : (val n).hs.length = (l ()).length := by have := k1.1; simpa using this
          have hlt : (i ()).toNat < (l ()).length := by rw [← hhs]; exact (List.getElem?_eq_some_iff.1 hv).1
          obtain ⟨h, xs, m1, m2, m3⟩ := k2 _ _ (getR_get (i := i ()) h0 (by omega))
          rw [hv] at m1
          cases m1
          obtain ⟨_, cs, hrep, hcell⟩ := row_at m2 m3 rfl h1 h2
          obtain ⟨_, hc⟩ := castT_rep (ok := okF S.H val) (w := w) hy
          obtain ⟨u, h6, h7⟩ := load_ok (hT.ty hty).1 (hc cs hrep) hcell
          exact ⟨u, h6, injT_rel h7⟩
        · cases h
      | false => rw [hk] at h; cases h
    · cases h
  · cases h
theorem idx_sound (hT : TOk P T) (hR : Rl w0 B hd S a w val) {t : TypeId} {X I V : AV} {O : Ob} {v i : Value} (hx : VRel (okF S.H val) w S.H.length val X v) (hi : VRel (okF S.H val) w S.H.length val I i) (h : idxF T S.H t X I = some (V, O)) (hO : O.holds) :
    ∃ u, (Instr.indexAt t v i).run P w = .ok u w ∧ VRel (okF S.H val) w S.H.length val V u := by
  unfold idxF at h
  split at h
  · rename_i k
    simp only [VRel] at hi
    subst hi
    split at h
    · rename_i e tt l hu
      simp only [VRel] at hx
      cases hs : ((tl T e).size == tt.n) with
      | true =>
        rw [hs] at h
        simp only [↓reduceIte, Option.some.injEq, Prod.mk.injEq] at h
        obtain ⟨rfl, rfl⟩ := h
        simp only [beq_iff_eq] at hs
        have hE := EOk.of_size hT (t := e) (by have := tt.n_pos; omega)
        obtain ⟨u, h1, h2⟩ := indexAddr_sl (hT.slice hu) (by rw [hE.size, hs]) hx hO.1 (getI_get hO.1 hO.2)
        exact ⟨u, h1, by simp only [VRel]; exact h2⟩
      | false => rw [hs] at h; cases h
    · rename_i e n hu
      simp only [VRel] at hx
      obtain ⟨hn, rfl⟩ := hx
      split at h
      · rename_i e' tt l hH
        cases hs : ((tl T e).size == tt.n) with
        | true =>
          rw [hs] at h
          simp only [↓reduceIte, Option.some.injEq, Prod.mk.injEq] at h
          obtain ⟨rfl, rfl⟩ := h
          simp only [beq_iff_eq] at hs
          have hE := EOk.of_size hT (t := e) (by have := tt.n_pos; omega)
          obtain ⟨xs, k1, k2, k3⟩ := hR.heap.blk n _ hH
          have hk0 : 0 ≤ k () := hO.1
          have hk1 : k () < ((l ()).length : Int) := hO.2
          rcases k1.2 with ⟨_, m1⟩ | ⟨g, cap, cur, m1, _⟩
          · rw [m1] at hk1; simp at hk1; omega
          · refine ⟨_, ?_, by simp only [VRel]; exact ⟨hn, g, _, _, m1, hk0, hk1, rfl⟩⟩
            rw [m1]
            simp [Instr.indexAt, asIntOf, run_underlying (slElem_und (hT.slice hu)) w, hk0, hk1, run_sz (w := w) (show szOf P e = some tt.n by rw [hE.size, hs]), Addr.add_lit]
        | false => rw [hs] at h; cases h
      · rename_i e' e2 tt l hH
        cases hs : ((tl T e).size == 1) with
        | true =>
          rw [hs] at h
          simp only [↓reduceIte, Option.some.injEq, Prod.mk.injEq] at h
          obtain ⟨rfl, rfl⟩ := h
          simp only [beq_iff_eq] at hs
          have hE := EOk.of_size hT (t := e) (by omega)
          obtain ⟨k1, k2, k3, k4⟩ := hR.heap.blk n _ hH
          have hk0 : 0 ≤ k () := hO.1
          have hk1 : k () < ((l ()).length : Int) := hO.2
          rcases k1.2 with ⟨_, m1⟩ | ⟨g, cap, cur, m1, _⟩
          · rw [m1] at hk1; simp at hk1; omega
          · refine ⟨_, ?_, by simp only [VRel]; exact ⟨hn, g, _, _, m1, hk0, hk1, rfl⟩⟩
            rw [m1]
            simp [Instr.indexAt, asIntOf, run_underlying (slElem_und (hT.slice hu)) w, hk0, hk1, run_sz (w := w) (show szOf P e = some 1 by rw [hE.size, hs]), Addr.add_lit]
        | false => rw [hs] at h; cases h
      · rename_i e' e2 tt l kk hH
        cases hs : ((tl T e).size == 1) with
        | true =>
          rw [hs] at h
          simp only [↓reduceIte, Option.some.injEq, Prod.mk.injEq] at h
          obtain ⟨rfl, rfl⟩ := h
          simp only [beq_iff_eq] at hs
          have hE := EOk.of_size hT (t := e) (by omega)
          obtain ⟨k1, k2, k3, k4⟩ := hR.heap.blk n _ hH
          have hk0 : 0 ≤ k () := hO.1
          have hk1 : k () < ((l ()).length : Int) := hO.2
          rcases k1.2 with ⟨_, m1⟩ | ⟨g, cap, cur, m1, _⟩
          · rw [m1] at hk1; simp at hk1; omega
          · refine ⟨_, ?_, by simp only [VRel]; exact ⟨hn, g, _, _, m1, hk0, hk1, rfl⟩⟩
            rw [m1]
            simp [Instr.indexAt, asIntOf, run_underlying (slElem_und (hT.slice hu)) w, hk0, hk1, run_sz (w := w) (show szOf P e = some 1 by rw [hE.size, hs]), Addr.add_lit]
        | false => rw [hs] at h; cases h
      · cases h
    · rename_i e n i hu
      simp only [VRel] at hx
      obtain ⟨hn, h0, hv⟩ := hx
      split at h
      · rename_i e' e2 tt l hH
        cases hs : ((tl T e).size == tt.n) with
        | true =>
          rw [hs] at h
          simp only [↓reduceIte, Option.some.injEq, Prod.mk.injEq] at h
          obtain ⟨rfl, rfl⟩ := h
          simp only [beq_iff_eq] at hs
          have hE := EOk.of_size hT (t := e) (by have := tt.n_pos; omega)
          obtain ⟨k1, k2, k3, k4⟩ := hR.heap.blk n _ hH
          have hk0 : 0 ≤ k () := hO.1
          have hk1 : k () < ((getR tt (l ()) (i ())).length : Int) := hO.2
          have hhs : (val n).hs.length = (l ()).length := by have := k1.1; simpa using this
          have hlt : (i ()).toNat < (l ()).length := by rw [← hhs]; exact (List.getElem?_eq_some_iff.1 hv).1
          obtain ⟨h, xs, m1, m2, m3⟩ := k2 _ _ (getR_get (i := i ()) h0 (by omega))
          rw [hv] at m1
          cases m1
          rcases m2.2 with ⟨_, m4⟩ | ⟨g, cap, cur, m4, _⟩
          · rw [m4] at hk1; simp at hk1; omega
          · refine ⟨_, ?_, by simp only [VRel]; exact ⟨hn, h0, g, _, _, by rw [hv, m4], hk0, hk1, rfl⟩⟩
            rw [m4]
            simp [Instr.indexAt, asIntOf, run_underlying (slElem_und (hT.slice hu)) w, hk0, hk1, run_sz (w := w) (show szOf P e = some tt.n by rw [hE.size, hs]), Addr.add_lit]
        | false => rw [hs] at h; cases h
      · cases h
    · rename_i len e n j hu
      simp only [VRel] at hx
      obtain ⟨hn, g, hv, rfl⟩ := hx
      cases hs : ((tl T e).size == 0) with
      | true => rw [hs] at h; cases h
      | false =>
        rw [hs] at h
        simp only [Bool.false_eq_true, ↓reduceIte, Option.some.injEq, Prod.mk.injEq] at h
        obtain ⟨rfl, rfl⟩ := h
        have hE := EOk.of_size hT (t := e) (by simpa using hs)
        have hk0 : 0 ≤ k () := hO.1
        have hk1 : k () < (len : Int) := hO.2
        refine ⟨_, ?_, by simp only [VRel]; exact ⟨hn, g, hv, rfl⟩⟩
        simp [Instr.indexAt, asIntOf, run_underlying (arElem_und (hT.array hu)) w, Instr.sureAddr, hk0, hk1, run_sz hE.size, Addr.add_lit]
    · rename_i len e cs j hu
      simp only [VRel] at hx
      obtain ⟨g, us, rfl, hr⟩ := hx
      cases hs : ((tl T e).size == 0) with
      | true => rw [hs] at h; cases h
      | false =>
        rw [hs] at h
        simp only [Bool.false_eq_true, ↓reduceIte, Option.some.injEq, Prod.mk.injEq] at h
        obtain ⟨rfl, rfl⟩ := h
        have hE := EOk.of_size hT (t := e) (by simpa using hs)
        have hk0 : 0 ≤ k () := hO.1
        have hk1 : k () < (len : Int) := hO.2
        refine ⟨_, ?_, by simp only [VRel]; exact ⟨g, us, rfl, hr⟩⟩
        simp [Instr.indexAt, asIntOf, run_underlying (arElem_und (hT.array hu)) w, Instr.sureAddr, hk0, hk1, run_sz hE.size, Addr.add_lit]
    · rename_i e d hu
      simp only [VRel] at hx
      obtain ⟨b, o, cs, rfl, h3, h4, h5, h6⟩ := hx
      cases hs : ((tl T e).size == 1) with
      | true =>
        rw [hs] at h
        simp only [↓reduceIte, Option.some.injEq, Prod.mk.injEq] at h
        obtain ⟨rfl, rfl⟩ := h
        simp only [beq_iff_eq] at hs
        have hE := EOk.of_size hT (t := e) (by omega)
        have hk0 : 0 ≤ k () := hO.1
        have hk1 : k () < 2 := hO.2
        have hc : comp (.pr .int .int) (d ()) ((k ()).toNat * 1) 1 = some ⟨.int, at2 (d ()) (k ())⟩ := by
          have hk : k () = 0 ∨ k () = 1 := by omega
          rcases hk with hk | hk <;> rw [hk] <;> rfl
        refine ⟨_, ?_, by simp only [VRel]; exact comp_prel hc h3 h4 h5 h6⟩
        simp [Instr.indexAt, asIntOf, run_underlying (arElem_und (hT.array hu)) w, Instr.sureAddr, hk0, hk1, run_sz (w := w) (show szOf P e = some 1 by rw [hE.size, hs]), Addr.add_lit]
      | false => rw [hs] at h; cases h
    · rename_i len e q tt d hu
      simp only [VRel] at hx
      obtain ⟨b, o, cs, rfl, h3, h4, h5, h6⟩ := hx
      cases hs : ((tl T e).size == tt.n && len == q + 1) with
      | true =>
        rw [hs] at h
        simp only [↓reduceIte, Option.some.injEq, Prod.mk.injEq] at h
        obtain ⟨rfl, rfl⟩ := h
        simp only [Bool.and_eq_true, beq_iff_eq] at hs
        obtain ⟨hs, rfl⟩ := hs
        have hE := EOk.of_size hT (t := e) (by have := tt.n_pos; omega)
        have hk0 : 0 ≤ k () := hO.1
        have hk1 : k () < ((q + 1 : Nat) : Int) := hO.2
        have hlen : List.length (d ()) = q + 1 := by have := h5; unfold Rep at this; exact this.1
        refine ⟨.pointer (some ⟨b, o + (k ()).toNat * tt.n, none⟩), ?_, ?_⟩
        · simp [Instr.indexAt, asIntOf, run_underlying (arElem_und (hT.array hu)) w, Instr.sureAddr, hk0, hk1, run_sz (w := w) (show szOf P e = some tt.n by rw [hE.size, hs]), Addr.add_lit]
          exact fun hc => absurd hc (by omega)
        · simp only [VRel]
          unfold Rep at h5
          obtain ⟨r1, r2, r3⟩ := h5
          refine ⟨b, _, _, rfl, h3, h4, r3 _ _ (getI_get hk0 (by rw [hlen]; exact hk1)), fun j u hu => ?_⟩
          rw [List.getElem?_take] at hu
          split at hu
          · rw [List.getElem?_drop] at hu
            rw [Nat.add_assoc]
            exact h6 _ u hu
          · cases hu
      | false => rw [hs] at h; cases h
    · rename_i len e n i0 hu
      simp only [VRel] at hx
      obtain ⟨hn, g, len', cap, hv, _, _, rfl⟩ := hx
      split at h
      · rename_i e' q tt l hH
        obtain ⟨g', xs, m1, m2, m3, m4, m5, m6⟩ := arr_at (hR.heap.blk n _ hH)
        rw [hv] at m1
        cases m1
        cases hs : ((tl T e).size == tt.n && len == q + 1) with
        | true =>
          rw [hs] at h
          simp only [↓reduceIte, Option.some.injEq, Prod.mk.injEq] at h
          obtain ⟨rfl, rfl⟩ := h
          simp only [Bool.and_eq_true, beq_iff_eq] at hs
          obtain ⟨hs, rfl⟩ := hs
          have hE := EOk.of_size hT (t := e) (by have := tt.n_pos; omega)
          have hk0 : 0 ≤ k () := hO.1
          have hk1 : k () < ((q + 1 : Nat) : Int) := hO.2
          refine ⟨_, ?_, by simp only [VRel]; exact ⟨hn, g, _, _, hv, hk0, hk1, rfl⟩⟩
          simp [Instr.indexAt, asIntOf, run_underlying (arElem_und (hT.array hu)) w, Instr.sureAddr, hk0, hk1, run_sz (w := w) (show szOf P e = some tt.n by rw [hE.size, hs]), Addr.add_lit]
          exact fun hc => absurd hc (by omega)
        | false => rw [hs] at h; cases h
      · cases h
    · cases h
  · cases h
end
end Go.Proofs.Ytemdajfcfmefnaa.M
/- An operation that makes no memory yields what is reckoned: the others, and all of them. -/
namespace Go.Proofs.Ytemdajfcfmefnaa.M
open Go.RowKit Abs
set_option linter.unusedVariables false
set_option linter.unusedSimpArgs false

section
variable {P : Program} {T : Tab} {w0 w : World} {B : Nat → Prop} {hd : Nat → Value} {S : AS} {a : Act} {val : Nat → Bd}
theorem fld_sound (hT : TOk P T) (hR : Rl w0 B hd S a w val) {s : TypeId} {X V : AV} {O : Ob} {v : Value} {f : Nat} (hx : VRel (okF S.H val) w S.H.length val X v) (h : fldF T s X f = some (V, O)) :
    ∃ u, (Instr.fieldAt s v f).run P w = .ok u w ∧ VRel (okF S.H val) w S.H.length val V u := by
  unfold fldF at h
  split at h
  · rename_i fs hu
    split at h
    · rename_i off ft hf
      cases hs : ((tl T ft).size == 0) with
      | true => rw [hs] at h; cases h
      | false =>
        rw [hs] at h
        simp only [Bool.false_eq_true, ↓reduceIte] at h
        have hs' : (tl T ft).size ≠ 0 := by simpa using hs
        have hE := EOk.of_size hT hs'
        have hfo := hT.field hu hf
        split at h
        · rename_i n j
          simp only [Option.some.injEq, Prod.mk.injEq] at h
          obtain ⟨rfl, rfl⟩ := h
          simp only [VRel] at hx
          obtain ⟨hn, g, hv, rfl⟩ := hx
          exact ⟨_, fieldAddr_ok hfo hE.size hs', by simp only [VRel]; exact ⟨hn, g, hv, rfl⟩⟩
        · rename_i cs j
          simp only [Option.some.injEq, Prod.mk.injEq] at h
          obtain ⟨rfl, rfl⟩ := h
          simp only [VRel] at hx
          obtain ⟨g, us, rfl, hr⟩ := hx
          exact ⟨_, fieldAddr_ok hfo hE.size hs', by simp only [VRel]; exact ⟨g, us, rfl, hr⟩⟩
        · rename_i tt d
          simp only [Option.map_eq_some_iff, Prod.mk.injEq] at h
          obtain ⟨c, hc, rfl, rfl⟩ := h
          simp only [VRel] at hx
          obtain ⟨b, o, cs, rfl, h3, h4, h5, h6⟩ := hx
          exact ⟨_, fieldAddr_ok hfo hE.size hs', by simp only [VRel]; exact comp_prel (compU_comp hc) h3 h4 h5 h6⟩
        · cases h
    · cases h
  · cases h
theorem field_sound (hT : TOk P T) (hR : Rl w0 B hd S a w val) {s : TypeId} {X V : AV} {O : Ob} {v : Value} {f : Nat} (hx : VRel (okF S.H val) w S.H.length val X v) (h : fieldF T s X f = some (V, O)) :
    ∃ u, (Instr.field s v f).run P w = .ok u w ∧ VRel (okF S.H val) w S.H.length val V u := by
  unfold fieldF at h
  split at h
  · rename_i fs hu
    split at h
    · rename_i off ft hf
      have hfo := hT.field hu hf
      split at h
      · rename_i tt d
        split at h
        · rename_i c tt' hc hty
          simp only [Option.map_eq_some_iff, Prod.mk.injEq] at h
          obtain ⟨y, hy, rfl, rfl⟩ := h
          simp only [VRel] at hx
          obtain ⟨cs, rfl, hr⟩ := hx
          obtain ⟨h1, h2, hE⟩ := hT.ty hty
          obtain ⟨he, hcast⟩ := castT_rep (ok := okF S.H val) (w := w) hy
          have hc' := compU_comp hc
          have hn : c.1.n = (tl T ft).size := (comp_rep hc' hr).2
          obtain ⟨u, h3, h4⟩ := field_ok (P := P) (w := w) (c := ⟨c.1, c.2 ()⟩) hfo (by rw [hn]; exact hc') (by simp only; rw [he]; exact h1) hr
          refine ⟨u, h3, injT_rel ?_⟩
          obtain ⟨e, hye⟩ := castT_eq hy
          obtain ⟨ct, cx⟩ := c
          simp only at e
          subst e
          rw [hye]
          exact h4
        · cases h
      · rename_i l
        simp only [VRel] at hx
        obtain ⟨cs, rfl, hr, hone⟩ := hx
        have hlen := hr.len
        obtain ⟨gs, fd, hgs, hfd, rfl, rfl⟩ := fieldOf_spec hfo
        cases hle : (fd.offset + (tl T fd.type).size).ble l.length with
        | true =>
          rw [hle] at h
          simp only [↓reduceIte] at h
          have hle' := Nat.le_of_ble_eq_true hle
          cases hag : (tl T fd.type).agg with
          | true =>
            rw [hag] at h
            simp only [↓reduceIte, Option.some.injEq, Prod.mk.injEq] at h
            obtain ⟨rfl, rfl⟩ := h
            have hE := EOk.of_agg hT hag
            have hs := run_sz (w := w) hE.size
            have ha := run_agg (w := w) (b := true) (by rw [hE.agg, hag])
            refine ⟨.agg ((cs.drop fd.offset).take (tl T fd.type).size).toArray, ?_, ?_⟩
            · simp [Instr.field, run_underlying hgs w, hfd, asAgg, part, ha, hs, List.take_drop]
            · simp only [VRel]
              refine ⟨_, rfl, VRelL.of (by simp only [List.length_take, List.length_drop]; omega) fun j x hj => ?_, fun u hu => hone u (List.mem_of_mem_drop (List.mem_of_mem_take hu))⟩
              rw [List.getElem?_take] at hj ⊢
              split at hj
              · rename_i hjl
                rw [List.getElem?_drop] at hj ⊢
                obtain ⟨u, hu, hr'⟩ := hr.get hj
                exact ⟨u, by simpa [hjl] using hu, hr'⟩
              · cases hj
          | false =>
            rw [hag] at h
            simp only [Bool.false_eq_true, ↓reduceIte] at h
            cases hsz : ((tl T fd.type).size == 1) with
            | true =>
              rw [hsz] at h
              simp only [↓reduceIte, Option.map_eq_some_iff, Prod.mk.injEq] at h
              obtain ⟨y, hy, rfl, rfl⟩ := h
              have hE := EOk.of_size hT (t := fd.type) (by simp at hsz; omega)
              obtain ⟨u, hu, hr'⟩ := hr.get hy
              refine ⟨u, ?_, hr'⟩
              have hlt : fd.offset < cs.length := (List.getElem?_eq_some_iff.1 hu).1
              have hge := (List.getElem?_eq_some_iff.1 hu).2
              simp [Instr.field, run_underlying hgs w, hfd, asAgg, part, run_agg (P := P) (w := w) (b := false) (by rw [hE.agg, hag]), hlt, hge]
            | false => rw [hsz] at h; cases h
        | false => rw [hle] at h; cases h
      · cases h
    · cases h
  · cases h
theorem index_sound (hT : TOk P T) (hR : Rl w0 B hd S a w val) {s : TypeId} {X I V : AV} {O : Ob} {v i : Value} (hx : VRel (okF S.H val) w S.H.length val X v) (hi : VRel (okF S.H val) w S.H.length val I i) (h : indexF T s X I = some (V, O)) (hO : O.holds) :
    ∃ u, (Instr.index s v i).run P w = .ok u w ∧ VRel (okF S.H val) w S.H.length val V u := by
  unfold indexF at h
  split at h
  · rename_i d k
    simp only [VRel] at hx hi
    subst hi
    obtain ⟨cs, rfl, hr⟩ := hx
    split at h
    · rename_i e hu
      split at h
      · rename_i hty
        simp only [Option.some.injEq, Prod.mk.injEq] at h
        obtain ⟨rfl, rfl⟩ := h
        obtain ⟨h1, h2, hE⟩ := hT.ty hty
        have hk0 : 0 ≤ k () := hO.1
        have hk1 : k () < 2 := hO.2
        have hc : comp (.pr .int .int) (d ()) ((k ()).toNat * 1) 1 = some ⟨.int, at2 (d ()) (k ())⟩ := by
          have hk : k () = 0 ∨ k () = 1 := by omega
          rcases hk with hk | hk <;> rw [hk] <;> rfl
        obtain ⟨u, h3, h4⟩ := index_ok (P := P) (w := w) (c := ⟨.int, at2 (d ()) (k ())⟩) (hT.array hu) hk0 hk1 hc h1 hr
        exact ⟨u, h3, injT_rel (t := .int) (x := fun _ => at2 (d ()) (k ())) h4⟩
      · cases h
    · cases h
  · rename_i l k
    simp only [VRel] at hx hi
    subst hi
    obtain ⟨cs, rfl, hr, _⟩ := hx
    split at h
    · rename_i len e hu
      cases hc : ((tl T e).size == 1 && !(tl T e).agg && l.length == len) with
      | true =>
        rw [hc] at h
        simp only [↓reduceIte, Option.map_eq_some_iff, Prod.mk.injEq] at h
        obtain ⟨y, hy, rfl, rfl⟩ := h
        simp only [Bool.and_eq_true, beq_iff_eq, Bool.not_eq_true'] at hc
        obtain ⟨⟨hs1, hag⟩, hlen⟩ := hc
        have hE := EOk.of_size hT (t := e) (by omega)
        have hk0 : 0 ≤ k () := hO.1
        have hk1 : k () < (len : Int) := hO.2
        obtain ⟨u, hu', hr'⟩ := hr.get hy
        refine ⟨u, ?_, hr'⟩
        have hlt : (k ()).toNat < cs.length := (List.getElem?_eq_some_iff.1 hu').1
        have hge := (List.getElem?_eq_some_iff.1 hu').2
        simp [Instr.index, asIntOf, run_underlying (arElem_und (hT.array hu)) w, hk0, hk1, run_sz (w := w) (show szOf P e = some 1 by rw [hE.size, hs1]), asAgg, part, run_agg (P := P) (w := w) (b := false) (by rw [hE.agg, hag]), hlt, hge]
      | false => rw [hc] at h; cases h
    · cases h
  · rename_i s' k
    simp only [VRel] at hx hi
    subst hi
    subst hx
    split at h
    · rename_i hu
      simp only [Option.some.injEq, Prod.mk.injEq] at h
      obtain ⟨rfl, rfl⟩ := h
      have hk0 : 0 ≤ k () := hO.1
      have hk1 : k () < ((s' ()).size : Int) := hO.2
      have hlt : (k ()).toNat < (s' ()).size := by omega
      refine ⟨_, indexStr_ok (hT.string hu) hk0 (c := (s' ())[(k ()).toNat]) (by simp [hlt]), ?_⟩
      simp only [VRel]
      simp [hlt]
    · cases h
  · cases h
theorem len_sound (hT : TOk P T) (hR : Rl w0 B hd S a w val) {t ty : TypeId} {ts : List TypeId} {X V : AV} {O : Ob} {v : Value} (hx : VRel (okF S.H val) w S.H.length val X v) (h : lenF T S.H t X = some (V, O)) :
    ∃ u, (Builtin.len_ (t :: ts).toArray ty #[v]).run P w = .ok u w ∧ VRel (okF S.H val) w S.H.length val V u := by
  unfold lenF at h
  have key : ∀ {e : TypeId} {ad : Option Addr} {n cap : Nat}, (tl T t).und = .slice e → v = .slice ad n cap → (Builtin.len_ (t :: ts).toArray ty #[v]).run P w = .ok (.int .i64 n) w := by
    intro e ad n cap hu hv
    simp [Builtin.len_, run_underlying (slElem_und (hT.slice hu)) w, hv]
    rfl
  split at h
  · rename_i e tt l hu
    simp only [Option.some.injEq, Prod.mk.injEq] at h
    obtain ⟨rfl, rfl⟩ := h
    simp only [VRel] at hx
    have hx' := hx
    unfold Rep at hx'
    obtain ⟨ad, cap, h1, _⟩ := hx'
    simp at h1
    exact ⟨_, key hu h1, by simp only [VRel]⟩
  · rename_i e hu
    simp only [Option.some.injEq, Prod.mk.injEq] at h
    obtain ⟨rfl, rfl⟩ := h
    simp only [VRel] at hx
    exact ⟨_, key hu hx, by simp only [VRel]; rfl⟩
  · rename_i e n hu
    simp only [VRel] at hx
    split at h
    · rename_i e' tt l hH
      simp only [Option.some.injEq, Prod.mk.injEq] at h
      obtain ⟨rfl, rfl⟩ := h
      obtain ⟨xs, k1, _⟩ := hR.heap.blk n _ hH
      have h3 : ∃ ad cap, v = .slice ad (l ()).length cap := by
        rw [hx.2]
        rcases k1.2 with ⟨h4, h5⟩ | ⟨g, cap, cur, h4, _⟩
        · rw [h4, h5]; exact ⟨_, _, rfl⟩
        · rw [h4]; exact ⟨_, _, rfl⟩
      obtain ⟨ad, cap, h3⟩ := h3
      exact ⟨_, key hu h3, by simp only [VRel]⟩
    · rename_i e' e2 tt l hH
      simp only [Option.some.injEq, Prod.mk.injEq] at h
      obtain ⟨rfl, rfl⟩ := h
      obtain ⟨k1, _⟩ := hR.heap.blk n _ hH
      have h3 : ∃ ad cap, v = .slice ad (l ()).length cap := by
        rw [hx.2]
        rcases k1.2 with ⟨h4, h5⟩ | ⟨g, cap, cur, h4, _⟩
        · rw [h4, h5]; exact ⟨_, _, rfl⟩
        · rw [h4]; exact ⟨_, _, rfl⟩
      obtain ⟨ad, cap, h3⟩ := h3
      exact ⟨_, key hu h3, by simp only [VRel]⟩
    · cases h
  · rename_i e n i hu
    simp only [VRel] at hx
    obtain ⟨hn, h0, hv⟩ := hx
    split at h
    · rename_i e' e2 tt l hH
      simp only [Option.some.injEq, Prod.mk.injEq] at h
      obtain ⟨rfl, rfl⟩ := h
      obtain ⟨k1, k2, k3, k4⟩ := hR.heap.blk n _ hH
      have hhs : (val n).hs.length = (l ()).length := by have := k1.1; simpa using this
      have hlt : (i ()).toNat < (l ()).length := by rw [← hhs]; exact (List.getElem?_eq_some_iff.1 hv).1
      obtain ⟨h, xs, m1, m2, m3⟩ := k2 _ _ (getR_get (i := i ()) h0 (by omega))
      rw [hv] at m1
      cases m1
      have h3 : ∃ ad cap, v = .slice ad (getR tt (l ()) (i ())).length cap := by
        rcases m2.2 with ⟨h4, h5⟩ | ⟨g, cap, cur, h4, _⟩
        · rw [h4, h5]; exact ⟨_, _, rfl⟩
        · rw [h4]; exact ⟨_, _, rfl⟩
      obtain ⟨ad, cap, h3⟩ := h3
      exact ⟨_, key hu h3, by simp only [VRel]⟩
    · cases h
  · rename_i s hu
    simp only [Option.some.injEq, Prod.mk.injEq] at h
    obtain ⟨rfl, rfl⟩ := h
    simp only [VRel] at hx
    subst hx
    exact ⟨.int .i64 ((s ()).size : Int), by simp [Builtin.len_, run_underlying (hT.string hu) w, goInt], by simp only [VRel]⟩
  · rename_i e n lo hi k hu
    simp only [Option.some.injEq, Prod.mk.injEq] at h
    obtain ⟨rfl, rfl⟩ := h
    simp only [VRel] at hx
    obtain ⟨_, h0, h1, ad, len, cap, _, h3, h4⟩ := hx
    refine ⟨_, key hu h4, ?_⟩
    simp only [VRel]
    congr 1
    omega
  · cases h
theorem conv_sound (hT : TOk P T) {ok : Nat → Prop} {N : Nat} {s d : TypeId} {X V : AV} {O : Ob} {v : Value} (hx : VRel ok w N val X v) (h : convF T s d X = some (V, O)) (hO : O.holds) :
    ∃ u, (convert s d v).run P w = .ok u w ∧ VRel ok w N val V u := by
  unfold convF at h
  split at h
  · rename_i k hs hd
    simp only [Option.some.injEq, Prod.mk.injEq] at h
    obtain ⟨rfl, rfl⟩ := h
    simp only [VRel] at hx
    subst hx
    refine ⟨_, by simp [convert, run_underlying (hT.int hs) w, run_underlying (hT.int hd) w, Conv.intToInt]; rfl, ?_⟩
    simp only [VRel]
    rw [wrap_in hO]
  · rename_i k hs hd
    simp only [Option.some.injEq, Prod.mk.injEq] at h
    obtain ⟨rfl, rfl⟩ := h
    simp only [VRel] at hx
    subst hx
    have h0 : 0 ≤ k () := hO.1
    have h1 : k () ≤ 9223372036854775807 := hO.2
    refine ⟨_, by simp [convert, run_underlying (hT.int hs) w, run_underlying (hT.int hd) w, Conv.intToInt]; rfl, ?_⟩
    simp only [VRel]
    have h2 : (2 : Int) ^ IntKind.u64.bits = 18446744073709551616 := by decide
    have e : IntKind.u64.wrap (k ()) = k () := by
      unfold IntKind.wrap
      simp only [IntKind.signed, h2]
      have : k () % 18446744073709551616 = k () := by omega
      simp [this]
    rw [e]
  · rename_i k hs hd
    simp only [Option.some.injEq, Prod.mk.injEq] at h
    obtain ⟨rfl, rfl⟩ := h
    simp only [VRel] at hx
    subst hx
    refine ⟨_, by simp [convert, run_underlying (hT.int hs) w, run_underlying (hT.int hd) w, Conv.intToInt]; rfl, ?_⟩
    simp only [VRel]
    rw [wrap_in hO]
  · rename_i k hs hd
    simp only [Option.some.injEq, Prod.mk.injEq] at h
    obtain ⟨rfl, rfl⟩ := h
    simp only [VRel] at hx
    subst hx
    refine ⟨_, by simp [convert, run_underlying (hT.int hs) w, run_underlying (hT.int hd) w, Conv.intToInt]; rfl, ?_⟩
    simp only [VRel]
    rw [wrap_in hO]
  · rename_i k hs hd
    simp only [Option.some.injEq, Prod.mk.injEq] at h
    obtain ⟨rfl, rfl⟩ := h
    simp only [VRel] at hx
    subst hx
    refine ⟨_, by simp [convert, run_underlying (hT.int hs) w, run_underlying (hT.int hd) w, Conv.intToInt]; rfl, ?_⟩
    simp only [VRel]
    rw [wrap64 hO]
  · cases h
end
end Go.Proofs.Ytemdajfcfmefnaa.M
/- An operation that makes no memory yields what is reckoned: parts of slices, and all of them together. -/
namespace Go.Proofs.Ytemdajfcfmefnaa.M
open Go.RowKit Abs
set_option linter.unusedVariables false
set_option linter.unusedSimpArgs false

section
variable {P : Program} {T : Tab} {w0 w : World} {B : Nat → Prop} {hd : Nat → Value} {S : AS} {a : Act} {val : Nat → Bd}
theorem optU_eval (hR : Rl w0 B hd S a w val) {y : Option Operand} {k : Option (Unit → Int)} (h : optU S y = some k) : y.map a.eval = (k.map fun k => k ()).map (.int .i64) := by
  cases y with
  | none => simp [optU] at h; subst h; rfl
  | some z =>
    unfold optU at h
    simp only at h
    have hz := hR.ev z
    split at h
    · rename_i q e
      cases h
      rw [e] at hz
      simp only [VRel] at hz
      simp [hz]
    · cases h
theorem slice_run {xt e : TypeId} {ad : Option Addr} {n cap k : Nat} {lo hi : Option Int} (ht : slElem P xt = some e) (hs : szOf P e = some k) (hc : n ≤ cap) (h1 : 0 ≤ lo.getD 0) (h2 : lo.getD 0 ≤ hi.getD n) (h3 : hi.getD n ≤ n) :
    ∃ u, (Instr.sliceAt xt (.slice ad n cap) (lo.map (.int .i64)) (hi.map (.int .i64)) none).run P w = .ok u w ∧ SubOf (.slice ad n cap) (lo.getD 0) (hi.getD n) k u := by
  obtain ⟨h, hh, hhe⟩ : ∃ h : Nat, hi.getD n = h ∧ h ≤ n := ⟨(hi.getD n).toNat, by omega, by omega⟩
  obtain ⟨g, hg, hgh⟩ : ∃ g : Nat, lo.getD 0 = g ∧ g ≤ h := ⟨(lo.getD 0).toNat, by omega, by omega⟩
  rw [hh, hg]
  have hb : (Instr.sliceBounds true n cap (lo.map (.int .i64)) (hi.map (.int .i64)) none).run P w = .ok (g, h, cap) w := by
    unfold Instr.sliceBounds Instr.sliceBound
    cases lo <;> cases hi <;> simp only [Option.getD_none, Option.getD_some, Option.map_none, Option.map_some] at hh hg ⊢
    · obtain rfl : n = h := by omega
      obtain rfl : g = 0 := by omega
      simp
    · subst hh
      obtain rfl : g = 0 := by omega
      simp [asIntOf, show h ≤ cap by omega]
    · subst hg
      obtain rfl : n = h := by omega
      simp [asIntOf, hgh]
    · subst hh; subst hg; simp [asIntOf, show h ≤ cap by omega, hgh]
  refine ⟨.slice (if cap = g then ad else ad.map (·.add (g * k))) (h - g) (cap - g), ?_, by omega, by omega, ad, n, cap, rfl, by omega, by simp⟩
  unfold Instr.sliceAt
  simp [run_underlying (slElem_und ht) w, Instr.slice, hb, run_sz hs]
theorem repL_sub {ok : Nat → Prop} {t : Ty} {l : List t.den} {xs : List Value} (hr : RepL ok w t l xs) {lo hi : Int} (h0 : 0 ≤ lo) (h1 : lo ≤ hi) (h2 : hi ≤ (l.length : Int)) :
    RepL ok w t (subL l lo hi) ((xs.drop (lo.toNat * t.n)).take ((hi.toNat - lo.toNat) * t.n)) := by
  have hlen : (subL l lo hi).length = hi.toNat - lo.toNat := by unfold subL; rw [List.length_drop, List.length_take]; omega
  refine ⟨?_, fun i y hy => ?_⟩
  · rw [hlen, List.length_take, List.length_drop, hr.1, ← Nat.sub_mul, Nat.min_eq_left]
    exact Nat.mul_le_mul_right _ (by omega)
  · unfold subL at hy
    rw [List.getElem?_drop, List.getElem?_take] at hy
    split at hy
    · rename_i hlt
      have := hr.2 _ y hy
      have hin : (i + 1) * t.n ≤ (hi.toNat - lo.toNat) * t.n := Nat.mul_le_mul_right _ (by omega)
      rw [List.drop_take, List.take_take, Nat.min_eq_left (by rw [Nat.add_mul] at hin; omega), List.drop_drop]
      rw [Nat.add_mul] at this
      exact this
    · cases hy
theorem rep_sub {ok : Nat → Prop} {t : Ty} {l : List t.den} {d v : Value} {lo hi : Int} (hd : Rep ok w (.sl t) l [d]) (hs : SubOf d lo hi t.n v) (hl : hi ≤ (l.length : Int)) : Rep ok w (.sl t) (subL l lo hi) [v] := by
  obtain ⟨h0, h1, ad, len, cap, rfl, h3, rfl⟩ := hs
  unfold Rep at hd ⊢
  obtain ⟨a, c, he, k1, k2, k3⟩ := hd
  simp only [List.cons.injEq, Value.slice.injEq, and_true] at he
  obtain ⟨rfl, hle, rfl⟩ := he
  have hlen : (subL l lo hi).length = hi.toNat - lo.toNat := by unfold subL; rw [List.length_drop, List.length_take]; omega
  refine ⟨_, _, by rw [hlen], by rw [hlen]; omega, by rw [hlen]; omega, ?_⟩
  by_cases hne : lo = hi
  · left; apply List.eq_nil_of_length_eq_zero; rw [hlen]; omega
  · rcases k3 with rfl | ⟨b, o, xs, rfl, k4, k5, k6, k7, k8⟩
    · left; simp [subL]
    · right
      have hcap : cap ≠ lo.toNat := by omega
      have hr := repL_sub (w := w) (ok := ok) (t := t) (l := l) (xs := xs) ⟨k6, k8⟩ h0 h1 hl
      refine ⟨b, o + lo.toNat * t.n, _, by simp [hcap, Addr.add_lit], k4, k5, hr.1, fun j u hu => ?_, hr.2⟩
      rw [List.getElem?_take] at hu
      split at hu
      · rw [List.getElem?_drop] at hu
        rw [Nat.add_assoc]
        exact k7 _ u hu
      · cases hu
theorem slice_sound (hT : TOk P T) (hR : Rl w0 B hd S a w val) {xt : TypeId} {X V : AV} {O : Ob} {v : Value} {lo hi : Option Operand} (hx : VRel (okF S.H val) w S.H.length val X v) (h : sliceF T S xt X lo hi = some (V, O)) (hO : O.holds) :
    ∃ u, (Instr.sliceAt xt v (lo.map a.eval) (hi.map a.eval) none).run P w = .ok u w ∧ VRel (okF S.H val) w S.H.length val V u := by
  unfold sliceF at h
  split at h
  · rename_i e tt l lo' hi' hu hlo hhi
    rw [optU_eval hR hlo, optU_eval hR hhi]
    cases hs : ((tl T e).size == tt.n) with
    | true =>
      rw [hs] at h
      simp only [↓reduceIte] at h
      simp only [beq_iff_eq] at hs
      have hE := EOk.of_size hT (t := e) (by have := tt.n_pos; omega)
      have hsz : szOf P e = some tt.n := by rw [hE.size, hs]
      simp only [VRel] at hx
      have core : ∀ (p q : Option Int), 0 ≤ p.getD 0 → p.getD 0 ≤ q.getD (l ()).length → q.getD (l ()).length ≤ (l ()).length → ∀ L : Unit → List tt.den, L () = subL (l ()) (p.getD 0) (q.getD (l ()).length) →
          ∃ u, (Instr.sliceAt xt v (p.map (.int .i64)) (q.map (.int .i64)) none).run P w = .ok u w ∧ VRel (okF S.H val) w S.H.length val (.sl tt L) u := by
        intro p q h1 h2 h3 L hL
        obtain ⟨u, k1, k2⟩ := slice_ok (P := P) (lo := p) (hi := q) (hT.slice hu) hsz hx h1 h2 h3
        refine ⟨u, k1, ?_⟩
        simp only [VRel]
        rw [hL]
        exact k2
      split at h <;> simp only [Option.some.injEq, Prod.mk.injEq] at h <;> obtain ⟨rfl, rfl⟩ := h
      · exact core none none (by simp) (by simp) (by simp) _ rfl
      · rename_i x
        have o1 : 0 ≤ x () := hO.1
        have o2 : x () ≤ ((l ()).length : Int) := hO.2
        exact core (some (x ())) none o1 o2 (by simp) _ rfl
      · rename_i x
        have o1 : 0 ≤ x () := hO.1
        have o2 : x () ≤ ((l ()).length : Int) := hO.2
        exact core none (some (x ())) (by simp) o1 o2 _ rfl
      · rename_i x y
        have o1 : 0 ≤ x () := hO.1
        have o2 : x () ≤ y () := hO.2.1
        have o3 : y () ≤ ((l ()).length : Int) := hO.2.2
        exact core (some (x ())) (some (y ())) o1 o2 o3 _ rfl
    | false => rw [hs] at h; cases h
  · rename_i e d hu hlo hhi
    rw [optU_eval hR hlo, optU_eval hR hhi]
    cases hs : ((tl T e).size == 1) with
    | true =>
      rw [hs] at h
      simp only [↓reduceIte, Option.some.injEq, Prod.mk.injEq] at h
      obtain ⟨rfl, rfl⟩ := h
      simp only [beq_iff_eq] at hs
      have hE := EOk.of_size hT (t := e) (by omega)
      simp only [VRel] at hx
      obtain ⟨b, o, cs, rfl, h3, h4, h5, h6⟩ := hx
      refine ⟨.slice (some ⟨b, o, none⟩) 2 2, ?_, ?_⟩
      · simp [Instr.sliceAt, run_underlying (arElem_und (hT.array hu)) w, Instr.sureAddr, Instr.sliceBounds, run_sz (w := w) (show szOf P e = some 1 by rw [hE.size, hs]), Addr.add_lit]
      · simp only [VRel]
        unfold Rep at h5
        obtain ⟨c1, c2, rfl, r1, r2⟩ := h5
        unfold Rep at r1 r2
        subst r1 r2
        unfold Rep
        refine ⟨_, 2, rfl, by simp, by simp [maxLen], .inr ⟨b, o, _, rfl, h3, h4, by simp [Ty.n], fun j u hu => h6 j u hu, fun i y hy => ?_⟩⟩
        match i, hy with
        | 0, hy => simp at hy; subst hy; simp [Ty.n, Rep]
        | 1, hy => simp at hy; subst hy; simp [Ty.n, Rep]
        | i + 2, hy => simp at hy
    | false => rw [hs] at h; cases h
  · rename_i len e n i0 hi' hu hlo hhi
    rw [optU_eval hR hlo, optU_eval hR hhi]
    simp only [VRel] at hx
    obtain ⟨hn, g, len', cap, hv, _, _, rfl⟩ := hx
    split at h
    · rename_i e' q tt l hH
      obtain ⟨g', xs, m1, m2, m3, m4, m5, m6⟩ := arr_at (hR.heap.blk n _ hH)
      rw [hv] at m1
      cases m1
      cases hs : ((tl T e).size == tt.n && len == q + 1) with
      | true =>
        rw [hs] at h
        simp only [↓reduceIte] at h
        simp only [Bool.and_eq_true, beq_iff_eq] at hs
        obtain ⟨hs, rfl⟩ := hs
        have hE := EOk.of_size hT (t := e) (by have := tt.n_pos; omega)
        have hsz : szOf P e = some tt.n := by rw [hE.size, hs]
        split at h <;> simp only [Option.some.injEq, Prod.mk.injEq] at h <;> obtain ⟨rfl, rfl⟩ := h
        · refine ⟨.slice (some ⟨g, 0, none⟩) (q + 1) (q + 1), ?_, ?_⟩
          · simp [Instr.sliceAt, run_underlying (arElem_und (hT.array hu)) w, Instr.sureAddr, Instr.sliceBounds, run_sz (w := w) hsz, Addr.add_lit]
          · simp only [VRel]
            refine ⟨hn, by simp, by simp, some ⟨g, 0, none⟩, q + 1, q + 1, hv, by rw [m4]; exact Int.le_refl _, ?_⟩
            rw [m4]
            simp [Addr.add_lit]
        · rename_i b
          have o1 : 0 ≤ b () := hO.1
          have o2 : b () ≤ ((l ()).length : Int) := hO.2
          rw [m4] at o2
          have o3 : (b ()).toNat ≤ q + 1 := by omega
          have o4 : b () ≤ (q : Int) + 1 := by omega
          refine ⟨.slice (some ⟨g, 0, none⟩) (b ()).toNat (q + 1), ?_, ?_⟩
          · simp [Instr.sliceAt, run_underlying (arElem_und (hT.array hu)) w, Instr.sureAddr, Instr.sliceBounds, run_sz (w := w) hsz, Addr.add_lit, run_sliceBound (P := P) (w := w) .i64 (b ()) (q + 1) .sliceAlen o1 o2]
          · simp only [VRel]
            refine ⟨hn, by simp, o1, some ⟨g, 0, none⟩, q + 1, q + 1, hv, o2, ?_⟩
            simp [Addr.add_lit]
      | false => rw [hs] at h; cases h
    · cases h
  · rename_i e n lo' hi' hu hlo hhi
    rw [optU_eval hR hlo, optU_eval hR hhi]
    split at h
    · rename_i e' tt l hH
      cases hs : ((tl T e).size == tt.n) with
      | true =>
        rw [hs] at h
        simp only [↓reduceIte] at h
        simp only [beq_iff_eq] at hs
        have hE := EOk.of_size hT (t := e) (by have := tt.n_pos; omega)
        have hsz : szOf P e = some tt.n := by rw [hE.size, hs]
        simp only [VRel] at hx
        obtain ⟨xs, b1, _⟩ := hR.heap.blk n _ hH
        obtain ⟨ad, cap, hv, hcap⟩ : ∃ ad cap, v = .slice ad (l ()).length cap ∧ (l ()).length ≤ cap := by
          rw [hx.2]
          rcases b1.2 with ⟨h4, h5⟩ | ⟨g, cap, cur, h4, _, _, h7, _⟩
          · rw [h4, h5]; exact ⟨_, _, rfl, Nat.le_refl _⟩
          · exact ⟨_, _, h4, h7⟩
        have core : ∀ (p q : Option Int), 0 ≤ p.getD 0 → p.getD 0 ≤ q.getD (l ()).length → q.getD (l ()).length ≤ (l ()).length → ∀ P' Q' : Unit → Int, P' () = p.getD 0 → Q' () = q.getD (l ()).length →
            ∃ u, (Instr.sliceAt xt v (p.map (.int .i64)) (q.map (.int .i64)) none).run P w = .ok u w ∧ VRel (okF S.H val) w S.H.length val (.sub n P' Q' tt.n) u := by
          intro p q h1 h2 h3 P' Q' hP hQ
          obtain ⟨u, k1, k2⟩ := slice_run (P := P) (w := w) (ad := ad) (lo := p) (hi := q) (hT.slice hu) hsz hcap h1 h2 h3
          refine ⟨u, by rw [hv]; exact k1, ?_⟩
          simp only [VRel]
          rw [← hx.2, hP, hQ, hv]
          exact ⟨hx.1, k2⟩
        split at h <;> simp only [Option.some.injEq, Prod.mk.injEq] at h <;> obtain ⟨rfl, rfl⟩ := h
        · exact core none none (by simp) (by simp) (by simp) _ _ rfl rfl
        · rename_i x
          have o1 : 0 ≤ x () := hO.1
          have o2 : x () ≤ ((l ()).length : Int) := hO.2
          exact core (some (x ())) none o1 o2 (by simp) _ _ rfl rfl
        · rename_i x
          have o1 : 0 ≤ x () := hO.1
          have o2 : x () ≤ ((l ()).length : Int) := hO.2
          exact core none (some (x ())) (by simp) o1 o2 _ _ rfl rfl
        · rename_i x y
          have o1 : 0 ≤ x () := hO.1
          have o2 : x () ≤ y () := hO.2.1
          have o3 : y () ≤ ((l ()).length : Int) := hO.2.2
          exact core (some (x ())) (some (y ())) o1 o2 o3 _ _ rfl rfl
      | false => rw [hs] at h; cases h
    · cases h
  · cases h
theorem pick_rel {ok : Nat → Prop} {N : Nat} {C X Y V : AV} {O : Ob} {c x y : Value} (hc : VRel ok w N val C c) (hx : VRel ok w N val X x) (hy : VRel ok w N val Y y) (h : pickF C X Y = some (V, O)) :
    ∃ b, c = .bool b ∧ VRel ok w N val V (if b then x else y) := by
  unfold pickF at h
  split at h
  · simp only [Option.some.injEq, Prod.mk.injEq] at h
    obtain ⟨rfl, rfl⟩ := h
    simp only [VRel] at hc
    exact ⟨true, hc, hx⟩
  · simp only [Option.some.injEq, Prod.mk.injEq] at h
    obtain ⟨rfl, rfl⟩ := h
    simp only [VRel] at hc
    exact ⟨false, hc, hy⟩
  · rename_i b
    simp only [VRel] at hc
    refine ⟨b (), hc, ?_⟩
    split at h
    · rename_i p q
      simp only [Option.some.injEq, Prod.mk.injEq] at h
      obtain ⟨rfl, rfl⟩ := h
      simp only [VRel] at hx hy ⊢
      cases b () <;> simp [hx, hy]
    · split at h
      · rename_i p q ha hb
        simp only [Option.some.injEq, Prod.mk.injEq] at h
        obtain ⟨rfl, rfl⟩ := h
        have h1 := asB_rel ha hx
        have h2 := asB_rel hb hy
        simp only [VRel]
        cases b () <;> simp [h1, h2]
      · cases h
  · cases h
theorem blt_sound (hT : TOk P T) (hR : Rl w0 B hd S a w val) {b : Builtin} {ts : Array TypeId} {args : Array Operand} {V : AV} {O : Ob} (h : bltF T S b ts.toList args.toList = some (V, O)) (dst : Option Tmp) (type : TypeId) (pos : String) (after : Array Edge) (guard : Option (Nat × Bool)) :
    Yl P w a { dst := dst, op := .call { callee := .builtin b, args := args, argTypes := ts }, type := type, pos := pos, after := after, guard := guard } (VRel (okF S.H val) w S.H.length val V) := by
  have hargs : ∀ xs : List Operand, args.toList = xs → args.map a.eval = (xs.map a.eval).toArray := fun xs hx => by
    apply Array.ext'
    simp [← hx]
  unfold bltF at h
  split at h
  · split at h
    · rename_i x hxs
      split at h
      · rename_i t r ht
        obtain ⟨u, h1, h2⟩ := len_sound hT hR (ty := type) (ts := r) (hR.ev x) h
        refine ⟨u, ?_, h2⟩
        have e1 : ts = (t :: r).toArray := by apply Array.ext'; simpa using ht
        simp [execOp, resolve, invoke, builtin, hargs _ hxs, e1] at h1 ⊢
        simp [h1]
      · cases h
    · cases h
  · split at h
    · rename_i x y hxs
      split at h
      · rename_i p q ex ey
        have hx := hR.ev x
        have hy := hR.ev y
        rw [ex] at hx
        rw [ey] at hy
        simp only [VRel] at hx hy
        cases h
        exact ⟨.int .i64 (if q () < p () then q () else p ()), by simp [execOp, resolve, invoke, builtin, hargs _ hxs, hx, hy, Builtin.min_, Builtin.min2], by simp only [VRel]⟩
      · cases h
    · cases h
  · split at h
    · rename_i x y hxs
      split at h
      · rename_i p q ex ey
        have hx := hR.ev x
        have hy := hR.ev y
        rw [ex] at hx
        rw [ey] at hy
        simp only [VRel] at hx hy
        cases h
        exact ⟨.int .i64 (if p () < q () then q () else p ()), by simp [execOp, resolve, invoke, builtin, hargs _ hxs, hx, hy, Builtin.max_, Builtin.max2], by simp only [VRel]⟩
      · cases h
    · cases h
  · cases h
theorem VRelL.map (hR : Rl w0 B hd S a w val) : ∀ xs : List Operand, VRelL (okF S.H val) w S.H.length val (xs.map S.ev) (xs.map a.eval)
  | [] => by simp [VRelL]
  | x :: xs => by simp only [List.map_cons, VRelL]; exact ⟨hR.ev x, VRelL.map hR xs⟩

/-- **An operation that makes no memory yields what is reckoned.** -/
theorem q_sound0 (hT : TOk P T) (hR : Rl w0 B hd S a w val) {o : Oper} {V : AV} {O : Ob} (h : qv0 T S o = some (V, O)) (hO : O.holds) : Yl P w a o (VRel (okF S.H val) w S.H.length val V) := by
  obtain ⟨dst, op, type, pos, after, guard⟩ := o
  unfold qv0 at h
  simp only at h
  split at h
  · rename_i x; cases h; exact ⟨_, rfl, hR.ev x⟩
  · rename_i x; cases h; exact ⟨_, rfl, hR.ev x⟩
  · rename_i c x y
    obtain ⟨b, h1, h2⟩ := pick_rel (hR.ev c) (hR.ev x) (hR.ev y) h
    refine ⟨_, by simp [execOp, h1, asBool]; rfl, ?_⟩
    cases b <;> exact h2
  · rename_i x
    have hx := hR.ev x
    split at h
    · rename_i n i e
      cases h
      rw [e] at hx
      simp only [VRel] at hx
      obtain ⟨k0, g, h1, h2⟩ := hx
      exact ⟨_, by simp [execOp, h2]; rfl, by simp only [VRel]; exact ⟨k0, g, h1, rfl⟩⟩
    · rename_i t d e
      cases h
      rw [e] at hx
      simp only [VRel] at hx
      obtain ⟨b, o, cs, h2, h3⟩ := hx
      exact ⟨_, by simp [execOp, h2]; rfl, by simp only [VRel]; exact ⟨b, o, cs, rfl, h3⟩⟩
    · rename_i n i k e
      cases h
      rw [e] at hx
      simp only [VRel] at hx
      obtain ⟨k0, g, l, c, h1, h2, h3, h4⟩ := hx
      exact ⟨_, by simp [execOp, h4]; rfl, by simp only [VRel]; exact ⟨k0, g, l, c, h1, h2, h3, rfl⟩⟩
    · rename_i n i j k e
      cases h
      rw [e] at hx
      simp only [VRel] at hx
      obtain ⟨k0, k00, g, l, c, h1, h2, h3, h4⟩ := hx
      exact ⟨_, by simp [execOp, h4]; rfl, by simp only [VRel]; exact ⟨k0, k00, g, l, c, h1, h2, h3, rfl⟩⟩
    · rename_i cs i e
      cases h
      rw [e] at hx
      simp only [VRel] at hx
      obtain ⟨g, us, h1, h2⟩ := hx
      exact ⟨_, by simp [execOp, h1]; rfl, by simp only [VRel]; exact ⟨g, us, rfl, h2⟩⟩
    · cases h
  · rename_i op xt x y yt
    obtain ⟨u, h1, h2⟩ := bin_sound hT op xt x y (hR.ev x) (hR.ev y) h hO
    exact yl_of rfl ⟨u, h1, h2⟩
  · rename_i op t x
    have hx := hR.ev x
    unfold unF at h
    split at h
    · rename_i b e
      rw [e] at hx
      cases h
      simp only [VRel] at hx
      exact ⟨_, by simp [execOp, hx, Op.unary]; rfl, by simp only [VRel]⟩
    · rename_i b e
      rw [e] at hx
      cases h
      simp only [VRel] at hx
      exact ⟨_, by simp [execOp, hx, Op.unary]; rfl, by simp only [VRel]⟩
    · rename_i k e
      rw [e] at hx
      cases h
      simp only [VRel] at hx
      exact ⟨_, by simp [execOp, hx, Op.unary, Op.intArith]; rfl, by simp only [VRel]; rw [← Int.zero_sub, wrap_in hO]⟩
    · cases h
  · rename_i t x; exact yl_of rfl (load_sound hT hR (hR.ev x) h)
  · rename_i t x i; exact yl_of rfl (idx_sound hT hR (hR.ev x) (hR.ev i) h hO)
  · rename_i s x f; exact yl_of rfl (fld_sound hT hR (hR.ev x) h)
  · rename_i s x f; exact yl_of rfl (field_sound hT hR (hR.ev x) h)
  · rename_i s x i; exact yl_of rfl (index_sound hT hR (hR.ev x) (hR.ev i) h hO)
  · rename_i t i
    have hx := hR.ev t
    refine yl_of rfl ?_
    split at h
    · rename_i l e
      rw [e] at hx
      simp only [VRel] at hx
      obtain ⟨vs, h1, h2⟩ := hx
      simp only [Option.map_eq_some_iff, Prod.mk.injEq] at h
      obtain ⟨y, hy, rfl, rfl⟩ := h
      obtain ⟨u, hu, hv⟩ := h2.get hy
      exact ⟨u, by simp [Instr.extract, h1, hu], hv⟩
    · cases h
  · rename_i xt x lo hi; exact yl_of rfl (slice_sound hT hR (hR.ev x) h hO)
  · rename_i f first caps
    cases hf : (first.size == 0) with
    | true =>
      rw [hf] at h
      simp only [↓reduceIte, Option.some.injEq, Prod.mk.injEq] at h
      obtain ⟨rfl, rfl⟩ := h
      have h1' : first = #[] := Array.eq_empty_of_size_eq_zero (by simpa using hf)
      subst h1'
      refine yl_of rfl ⟨_, rfl, ?_⟩
      simp only [VRel]
      refine ⟨caps.toList.map a.eval, ?_, VRelL.map hR _⟩
      have hc : Array.map a.eval caps = (List.map a.eval caps.toList).toArray := by apply Array.ext'; simp
      rw [hc]; simp
    | false => rw [hf] at h; cases h
  · rename_i s d x; exact yl_of rfl (conv_sound hT (hR.ev x) h hO)
  · rename_i c
    obtain ⟨callee, args, ts⟩ := c
    simp only at h
    split at h
    · exact blt_sound hT hR h _ _ _ _ _
    · cases h
  · cases h
theorem ints_of {ok : Nat → Prop} {l : List Int} {xs : List Value} (h : RepL ok w .int l xs) : xs = l.map (Value.int .i64) := by
  obtain ⟨h1, h2⟩ := h
  have hl : xs.length = l.length := by rw [h1]; exact Nat.mul_one _
  refine List.ext_getElem? fun i => ?_
  by_cases hi : i < l.length
  · have h3 := h2 i l[i] (List.getElem?_eq_getElem hi)
    unfold Rep at h3
    have e : (xs.drop (i * 1)).take 1 = [.int .i64 l[i]] := h3
    have : ((xs.drop (i * 1)).take 1)[0]? = some (.int .i64 l[i]) := by rw [e]; rfl
    rw [List.getElem?_take, List.getElem?_drop] at this
    rw [List.getElem?_map, List.getElem?_eq_getElem hi]
    simpa using this
  · rw [List.getElem?_eq_none (by omega), List.getElem?_eq_none (by simp; omega)]
theorem rep_ints' {ok : Nat → Prop} (l : List Int) : RepL ok w .int l (l.map (Value.int .i64)) := by
  refine ⟨by simp [Ty.n], fun i y hy => ?_⟩
  unfold Rep
  have e : ((l.map (Value.int .i64)).drop (i * Ty.int.n)).take Ty.int.n = [.int .i64 y] := by
    simp only [Ty.n, Nat.mul_one]
    obtain ⟨h1, h2⟩ := List.getElem?_eq_some_iff.1 hy
    rw [List.drop_eq_getElem_cons (by simpa using h1), List.getElem_map, h2]
    rfl
  rw [e]
theorem rep_arI {ok : Nat → Prop} {q : Nat} {l : List Int} (h : l.length = q + 1) : Rep ok w (.ar q .int) l (l.map (Value.int .i64)) := by
  unfold Rep
  exact ⟨h, by rw [List.length_map, h]; simp [Ty.n], (rep_ints' l).2⟩
theorem rep_sq {ok : Nat → Prop} {q : Nat} {l : List Int} (h : l.length = q + 1 + 1) : Rep ok w (.pr .int (.ar q .int)) (getI .int l 0, List.drop 1 l) (l.map (Value.int .i64)) := by
  match l, h with
  | x :: r, h =>
    unfold Rep
    refine ⟨[.int .i64 x], r.map (Value.int .i64), rfl, ?_, ?_⟩
    · unfold Rep; rfl
    · exact rep_arI (by simpa using h)
theorem sq_rep {ok : Nat → Prop} {q : Nat} {y : Int × List Int} {cs : List Value} (h : Rep ok w (.pr .int (.ar q .int)) y cs) : cs = (y.1 :: y.2).map (Value.int .i64) ∧ y.2.length = q + 1 := by
  unfold Rep at h
  obtain ⟨c1, c2, rfl, r1, r2⟩ := h
  unfold Rep at r1 r2
  obtain ⟨r2, r3, r4⟩ := r2
  subst r1
  have e := ints_of (w := w) (ok := ok) (l := y.2) (xs := c2) ⟨by rw [r3, r2], r4⟩
  exact ⟨by rw [e]; rfl, r2⟩
theorem loadS_sound (hT : TOk P T) (hR : Rl w0 B hd S a w val) {t : TypeId} {X V : AV} {O : Ob} {v : Value} (hx : VRel (okF S.H val) w S.H.length val X v) (h : loadS T S.H t X = some (V, O)) (hO : O.holds) :
    ∃ u, (Instr.loadAt t v).run P w = .ok u w ∧ VRel (okF S.H val) w S.H.length val V u := by
  unfold loadS at h
  split at h
  · rename_i n i k
    simp only [VRel] at hx
    obtain ⟨hn, g, len, cap, hv, h0, h1, rfl⟩ := hx
    split at h
    · rename_i e q l hH
      obtain ⟨g', xs, m1, m2, m3, m4, m5, m6⟩ := arr_at (hR.heap.blk n _ hH)
      have hxs := ints_of m3
      subst hxs
      rw [hv] at m1
      cases m1
      split at h
      · rename_i r hty
        cases hk : (k == 0 && q == r + 1) with
        | true =>
          rw [hk] at h
          simp only [↓reduceIte, Option.some.injEq, Prod.mk.injEq] at h
          obtain ⟨rfl, rfl⟩ := h
          simp only [Bool.and_eq_true, beq_iff_eq] at hk
          obtain ⟨rfl, rfl⟩ := hk
          obtain ⟨u, h6, h7⟩ := load_ok (w := w) (ok := okF S.H val) (hT.ty hty).1 (rep_sq (w := w) (ok := okF S.H val) m4) m6
          exact ⟨u, h6, injT_rel (t := .pr .int (.ar r .int)) (x := fun _ => (getI .int (l ()) 0, List.drop 1 (l ()))) h7⟩
        | false => rw [hk] at h; cases h
      · rename_i r hty
        cases hk : (k == 1) with
        | true =>
          rw [hk] at h
          simp only [↓reduceIte, Option.some.injEq, Prod.mk.injEq] at h
          obtain ⟨rfl, rfl⟩ := h
          simp only [beq_iff_eq] at hk
          subst hk
          have ho : i () + ((r + 1 : Nat) : Int) ≤ ((l ()).length : Int) := hO
          have hl : (List.take (r + 1) (List.drop (i ()).toNat (l ()))).length = r + 1 := by rw [List.length_take, List.length_drop]; omega
          obtain ⟨u, h6, h7⟩ := load_ok (w := w) (ok := okF S.H val) (b := g) (o := (i ()).toNat * 1) (hT.ty hty).1 (rep_arI (w := w) (ok := okF S.H val) hl) (fun j u hu => by
            rw [List.map_take, List.map_drop, List.getElem?_take] at hu
            split at hu
            · rw [List.getElem?_drop] at hu
              have := m6 _ u hu
              rw [Nat.zero_add] at this
              rw [Nat.mul_one]
              exact this
            · cases hu)
          exact ⟨u, h6, injT_rel (t := .ar r .int) (x := fun _ => List.take (r + 1) (List.drop (i ()).toNat (l ()))) h7⟩
        | false => rw [hk] at h; cases h
      · cases h
    · cases h
  · rename_i q d
    simp only [VRel] at hx
    obtain ⟨b, o, cs, rfl, h3, h4, h5, h6⟩ := hx
    split at h
    · rename_i r hty
      cases hk : (q == r + 1) with
      | true =>
        rw [hk] at h
        simp only [↓reduceIte, Option.some.injEq, Prod.mk.injEq] at h
        obtain ⟨rfl, rfl⟩ := h
        simp only [beq_iff_eq] at hk
        subst hk
        unfold Rep at h5
        obtain ⟨r1, r2, r3⟩ := h5
        have e := ints_of (w := w) (ok := okF S.H val) (l := d ()) (xs := cs) ⟨by rw [r2, r1], r3⟩
        subst e
        obtain ⟨u, h8, h7⟩ := load_ok (w := w) (ok := okF S.H val) (hT.ty hty).1 (rep_sq (w := w) (ok := okF S.H val) r1) h6
        exact ⟨u, h8, injT_rel (t := .pr .int (.ar r .int)) (x := fun _ => (getI .int (d ()) 0, List.drop 1 (d ()))) h7⟩
      | false => rw [hk] at h; cases h
    · cases h
  · cases h
theorem idxS_sound (hT : TOk P T) (hR : Rl w0 B hd S a w val) {t : TypeId} {X I V : AV} {O : Ob} {v i : Value} (hx : VRel (okF S.H val) w S.H.length val X v) (hi : VRel (okF S.H val) w S.H.length val I i) (h : idxS T S.H t X I = some (V, O)) (hO : O.holds) :
    ∃ u, (Instr.indexAt t v i).run P w = .ok u w ∧ VRel (okF S.H val) w S.H.length val V u := by
  unfold idxS at h
  split at h
  · rename_i n j k
    simp only [VRel] at hx hi
    subst hi
    obtain ⟨hn, g, len', cap, hv, h0, h1, rfl⟩ := hx
    split at h
    · rename_i e' q l len e hH hu
      obtain ⟨g', xs, m1, m2, m3, m4, m5, m6⟩ := arr_at (hR.heap.blk n _ hH)
      rw [hv] at m1
      cases m1
      cases hs : ((tl T e).size == 1) with
      | true =>
        rw [hs] at h
        simp only [↓reduceIte, Option.some.injEq, Prod.mk.injEq] at h
        obtain ⟨rfl, rfl⟩ := h
        simp only [beq_iff_eq] at hs
        have hE := EOk.of_size hT (t := e) (by omega)
        have hk0 : 0 ≤ k () := hO.1
        have hk1 : k () < (len : Int) := hO.2.1
        have hk2 : j () + (len : Int) ≤ ((l ()).length : Int) := hO.2.2
        refine ⟨.pointer (some ⟨g, (j () + k ()).toNat * 1, none⟩), ?_, ?_⟩
        · have e1 : (j () + k ()).toNat = (j ()).toNat + (k ()).toNat := by omega
          rw [e1]
          simp [Instr.indexAt, asIntOf, run_underlying (arElem_und (hT.array hu)) w, Instr.sureAddr, hk0, hk1, run_sz (w := w) (show szOf P e = some 1 by rw [hE.size, hs]), Addr.add_lit]
        · simp only [VRel]
          exact ⟨hn, g, _, _, hv, by omega, by rw [m4] at hk2; omega, rfl⟩
      | false => rw [hs] at h; cases h
    · cases h
  · cases h
theorem fldS_sound (hT : TOk P T) (hR : Rl w0 B hd S a w val) {s : TypeId} {X V : AV} {O : Ob} {v : Value} {f : Nat} (hx : VRel (okF S.H val) w S.H.length val X v) (h : fldS T S.H s X f = some (V, O)) :
    ∃ u, (Instr.fieldAt s v f).run P w = .ok u w ∧ VRel (okF S.H val) w S.H.length val V u := by
  unfold fldS at h
  split at h
  · rename_i n i0
    simp only [VRel] at hx
    obtain ⟨hn, g, len', cap, hv, h0, h1, rfl⟩ := hx
    split at h
    · rename_i e' q l fs hH hu
      obtain ⟨g', xs, m1, m2, m3, m4, m5, m6⟩ := arr_at (hR.heap.blk n _ hH)
      rw [hv] at m1
      cases m1
      split at h
      · rename_i off ft hf
        cases hs : ((tl T ft).size == 0) with
        | true => rw [hs] at h; cases h
        | false =>
          rw [hs] at h
          simp only [Bool.false_eq_true, ↓reduceIte] at h
          have hs' : (tl T ft).size ≠ 0 := by simpa using hs
          have hE := EOk.of_size hT hs'
          have hfo := hT.field hu hf
          cases hle : off.ble q with
          | true =>
            rw [hle] at h
            simp only [↓reduceIte, Option.some.injEq, Prod.mk.injEq] at h
            obtain ⟨rfl, rfl⟩ := h
            have hle' := Nat.le_of_ble_eq_true hle
            refine ⟨_, fieldAddr_ok hfo hE.size hs', ?_⟩
            simp only [VRel]
            exact ⟨hn, g, _, _, hv, by omega, by omega, by simp⟩
          | false => rw [hle] at h; cases h
      · cases h
    · cases h
  · rename_i q d
    simp only [VRel] at hx
    obtain ⟨b, o, cs, rfl, h3, h4, h5, h6⟩ := hx
    unfold Rep at h5
    obtain ⟨r1, r2, r3⟩ := h5
    have e := ints_of (w := w) (ok := okF S.H val) (l := d ()) (xs := cs) ⟨by rw [r2, r1], r3⟩
    subst e
    split at h
    · rename_i fs hu
      split at h
      · rename_i off ft hf
        cases hs : ((tl T ft).size == 0) with
        | true => rw [hs] at h; cases h
        | false =>
          rw [hs] at h
          simp only [Bool.false_eq_true, ↓reduceIte] at h
          have hs' : (tl T ft).size ≠ 0 := by simpa using hs
          have hE := EOk.of_size hT hs'
          have hfo := hT.field hu hf
          split at h
          · cases hle : off.ble q with
            | true =>
              rw [hle] at h
              simp only [↓reduceIte, Option.some.injEq, Prod.mk.injEq] at h
              obtain ⟨rfl, rfl⟩ := h
              have hle' := Nat.le_of_ble_eq_true hle
              refine ⟨_, fieldAddr_ok hfo hE.size hs', ?_⟩
              simp only [VRel]
              have hg := getI_get (t := .int) (l := d ()) (i := (off : Int)) (by omega) (by rw [r1]; omega)
              rw [Int.toNat_natCast] at hg
              refine ⟨b, o + off, [.int .i64 (getI .int (d ()) (off : Int))], rfl, h3, h4, by unfold Rep; rfl, fun j u hu => ?_⟩
              match j, hu with
              | 0, hu =>
                simp only [List.getElem?_cons_zero, Option.some.injEq] at hu
                subst hu
                have := h6 off _ (by rw [List.getElem?_map, hg]; rfl)
                simpa using this
              | j + 1, hu => simp at hu
            | false => rw [hle] at h; cases h
          · rename_i r hty
            cases hle : (off + r).ble q with
            | true =>
              rw [hle] at h
              simp only [↓reduceIte, Option.some.injEq, Prod.mk.injEq] at h
              obtain ⟨rfl, rfl⟩ := h
              have hle' := Nat.le_of_ble_eq_true hle
              refine ⟨_, fieldAddr_ok hfo hE.size hs', ?_⟩
              simp only [VRel]
              have hl : (List.take (r + 1) (List.drop off (d ()))).length = r + 1 := by rw [List.length_take, List.length_drop, r1]; omega
              refine ⟨b, o + off, _, rfl, h3, h4, rep_arI hl, fun j u hu => ?_⟩
              rw [List.map_take, List.map_drop, List.getElem?_take] at hu
              split at hu
              · rw [List.getElem?_drop] at hu
                have := h6 _ u hu
                rw [Nat.add_assoc]
                exact this
              · cases hu
            | false => rw [hle] at h; cases h
          · cases h
      · cases h
    · cases h
  · cases h
theorem sliceS_sound (hT : TOk P T) (hR : Rl w0 B hd S a w val) {xt : TypeId} {X V : AV} {O : Ob} {v : Value} {lo hi : Option Operand} (hx : VRel (okF S.H val) w S.H.length val X v) (h : sliceS T S xt X lo hi = some (V, O)) (hO : O.holds) :
    ∃ u, (Instr.sliceAt xt v (lo.map a.eval) (hi.map a.eval) none).run P w = .ok u w ∧ VRel (okF S.H val) w S.H.length val V u := by
  unfold sliceS at h
  split at h
  · rename_i n i len e hi' hu hlo hhi
    rw [optU_eval hR hlo, optU_eval hR hhi]
    simp only [VRel] at hx
    obtain ⟨hn, g, len', cap, hv, h0, h1, rfl⟩ := hx
    split at h
    · rename_i e' q l hH
      obtain ⟨g', xs, m1, m2, m3, m4, m5, m6⟩ := arr_at (hR.heap.blk n _ hH)
      rw [hv] at m1
      cases m1
      cases hs : ((tl T e).size == 1) with
      | true =>
        rw [hs] at h
        simp only [↓reduceIte] at h
        simp only [beq_iff_eq] at hs
        have hE := EOk.of_size hT (t := e) (by omega)
        have hsz : szOf P e = some 1 := by rw [hE.size, hs]
        obtain ⟨m, hm⟩ : ∃ m : Nat, i () = (m : Int) := ⟨(i ()).toNat, by omega⟩
        have hmn : (i ()).toNat = m := by omega
        split at h <;> simp only [Option.some.injEq, Prod.mk.injEq] at h <;> obtain ⟨rfl, rfl⟩ := h
        · have o1 : i () + (len : Int) = ((l ()).length : Int) := hO
          rw [m4] at o1
          have o2 : q + 1 - m = len := by omega
          refine ⟨.slice (some ⟨g, m * 1, none⟩) len len, ?_, ?_⟩
          · rw [hmn]
            simp [Instr.sliceAt, run_underlying (arElem_und (hT.array hu)) w, Instr.sureAddr, Instr.sliceBounds, run_sz (w := w) hsz, Addr.add_lit]
          · simp only [VRel]
            refine ⟨hn, by omega, by omega, some ⟨g, 0, none⟩, q + 1, q + 1, hv, by omega, ?_⟩
            rw [hmn, if_neg (by omega), show (i () + (len : Int)).toNat - m = len by omega, o2]
            simp [Addr.add_lit]
        · rename_i b
          have o1 : i () + (len : Int) = ((l ()).length : Int) := hO.2.2
          have b0 : 0 ≤ b () := hO.1
          have b1 : b () ≤ (len : Int) := hO.2.1
          rw [m4] at o1
          have o2 : q + 1 - m = len := by omega
          refine ⟨.slice (some ⟨g, m * 1, none⟩) (b ()).toNat len, ?_, ?_⟩
          · rw [hmn]
            simp [Instr.sliceAt, run_underlying (arElem_und (hT.array hu)) w, Instr.sureAddr, Instr.sliceBounds, run_sz (w := w) hsz, Addr.add_lit, run_sliceBound (P := P) (w := w) .i64 (b ()) len .sliceAlen b0 b1]
          · simp only [VRel]
            refine ⟨hn, by omega, by omega, some ⟨g, 0, none⟩, q + 1, q + 1, hv, by omega, ?_⟩
            rw [hmn, if_neg (by omega), show (i () + b ()).toNat - m = (b ()).toNat by omega, o2]
            simp [Addr.add_lit]
      | false => rw [hs] at h; cases h
    · cases h
  · cases h
theorem indexS_sound (hT : TOk P T) (hR : Rl w0 B hd S a w val) {s : TypeId} {X I V : AV} {O : Ob} {v i : Value} (hx : VRel (okF S.H val) w S.H.length val X v) (hi : VRel (okF S.H val) w S.H.length val I i) (h : indexS T s X I = some (V, O)) (hO : O.holds) :
    ∃ u, (Instr.index s v i).run P w = .ok u w ∧ VRel (okF S.H val) w S.H.length val V u := by
  unfold indexS at h
  split at h
  · rename_i q d k
    simp only [VRel] at hx hi
    subst hi
    obtain ⟨cs, rfl, hr⟩ := hx
    split at h
    · rename_i len e hu
      split at h
      · rename_i hty
        cases hk : (len == q + 1 && !(q == 0)) with
        | true =>
          rw [hk] at h
          simp only [↓reduceIte, Option.some.injEq, Prod.mk.injEq] at h
          obtain ⟨rfl, rfl⟩ := h
          simp only [Bool.and_eq_true, beq_iff_eq, Bool.not_eq_true', beq_eq_false_iff_ne, ne_eq] at hk
          obtain ⟨hk, hq0⟩ := hk
          obtain ⟨h1, h2, hE⟩ := hT.ty hty
          have hk0 : 0 ≤ k () := hO.1
          have hk1 : k () < (len : Int) := hO.2
          have hc : comp (.ar q .int) (d ()) ((k ()).toNat * Ty.int.n) Ty.int.n = some ⟨.int, getI .int (d ()) (k ())⟩ := by
            have hkk : (k ()).toNat < q + 1 := by omega
            unfold comp
            simp only [Ty.n, Nat.mul_one, Nat.mod_one, Nat.div_one]
            by_cases hz : (k ()).toNat = 0 ∧ 1 = q + 1
            · omega
            · rw [if_neg hz, if_pos ⟨trivial, trivial, hkk⟩]
              rfl
          obtain ⟨u, h3, h4⟩ := index_ok (P := P) (w := w) (c := ⟨.int, getI .int (d ()) (k ())⟩) (hT.array hu) hk0 hk1 hc h1 hr
          exact ⟨u, h3, injT_rel (t := .int) (x := fun _ => getI .int (d ()) (k ())) h4⟩
        | false => rw [hk] at h; cases h
      · cases h
    · cases h
  · cases h
theorem qW_sound (hT : TOk P T) (hR : Rl w0 B hd S a w val) {o : Oper} {V : AV} {O : Ob} (h : qvW S o = some (V, O)) : Yl P w a o (VRel (okF S.H val) w S.H.length val V) := by
  obtain ⟨dst, op, type, pos, after, guard⟩ := o
  unfold qvW at h
  simp only at h
  split at h
  · rename_i xt x y sh
    have hx := hR.ev x
    have hy := hR.ev y
    unfold subW at h
    split at h
    · rename_i p q e1 e2
      split at h
      · cases h
        rw [e1] at hx
        rw [e2] at hy
        simp only [VRel] at hx hy
        obtain ⟨v, k1, k2⟩ := bin_ok (P := P) (w := w) (ok := okF S.H val) (N := 0) (val := fun _ => undef) .sub xt x y (X := .int (p ())) (Y := .int (q ())) (V := .int (IntKind.i64.wrap (p () - q ()))) hx hy rfl
        exact yl_of rfl ⟨v, k1, by simp only [VRel]; exact k2⟩
      · cases h
    · cases h
  · cases h
/-- **An operation that makes no memory yields what is reckoned.** -/
theorem q_sound (hT : TOk P T) (hR : Rl w0 B hd S a w val) {o : Oper} {V : AV} {O : Ob} (h : qv T S o = some (V, O)) (hO : O.holds) : Yl P w a o (VRel (okF S.H val) w S.H.length val V) := by
  unfold qv at h
  split at h
  · rename_i r hr
    cases h
    exact qW_sound hT hR hr
  rename_i hq0
  clear hq0
  split at h
  · rename_i r hr
    cases h
    exact q_sound0 hT hR hr hO
  · rename_i hq
    clear hq
    obtain ⟨dst, op, type, pos, after, guard⟩ := o
    unfold qvS at h
    simp only at h
    split at h
    · rename_i t x; exact yl_of rfl (loadS_sound hT hR (hR.ev x) h hO)
    · rename_i t x i; exact yl_of rfl (idxS_sound hT hR (hR.ev x) (hR.ev i) h hO)
    · rename_i s x f; exact yl_of rfl (fldS_sound hT hR (hR.ev x) h)
    · rename_i s x i; exact yl_of rfl (indexS_sound hT hR (hR.ev x) (hR.ev i) h hO)
    · rename_i xt x lo hi; exact yl_of rfl (sliceS_sound hT hR (hR.ev x) h hO)
    · rename_i f first caps
      cases hf : (caps.size == 0 && (first.toList.map S.ev).all boundB) with
      | true =>
        rw [hf] at h
        simp only [↓reduceIte, Option.some.injEq, Prod.mk.injEq] at h
        obtain ⟨rfl, rfl⟩ := h
        simp only [Bool.and_eq_true, beq_iff_eq] at hf
        have h1' : caps = #[] := Array.eq_empty_of_size_eq_zero hf.1
        subst h1'
        refine yl_of rfl ⟨_, rfl, ?_⟩
        simp only [VRel]
        refine ⟨first.toList.map a.eval, [], ?_, rfl, boundB_rel hf.2 (VRelL.map hR _)⟩
        have hc : Array.map a.eval first = (List.map a.eval first.toList).toArray := by apply Array.ext'; simp
        rw [hc]; simp
      | false => rw [hf] at h; cases h
    · rename_i t x
      split at h
      · rename_i l hl
        cases hf : boundB (S.ev x) with
        | true =>
          rw [hf] at h
          simp only [↓reduceIte, Option.some.injEq, Prod.mk.injEq] at h
          obtain ⟨rfl, rfl⟩ := h
          obtain ⟨fs, hu⟩ := TOk.structU hT hl
          refine yl_of rfl ⟨_, by simp [Instr.makeInterface, run_underlying hu w]; rfl, ?_⟩
          simp only [VRel]
          exact ⟨_, rfl, rfl, by simp only [VRelL]; exact ⟨boundB_rel1 hf (hR.ev x), trivial⟩⟩
        | false => rw [hf] at h; cases h
      · cases h
    · cases h
end
end Go.Proofs.Ytemdajfcfmefnaa.M
/- How memory may change: new blocks, blocks that are written, blocks that grow or take in others. -/
namespace Go.Proofs.Ytemdajfcfmefnaa.M
open Go.RowKit Abs
set_option linter.unusedVariables false
set_option linter.unusedSimpArgs false

def upd (val : Nat → Bd) (n : Nat) (v : Bd) : Nat → Bd := fun m => if m = n then v else val m
theorem upd_self (val : Nat → Bd) (n : Nat) (v : Bd) : upd val n v n = v := by simp [upd]
theorem upd_ne (val : Nat → Bd) {n m : Nat} (v : Bd) (h : m ≠ n) : upd val n v m = val m := by simp [upd, h]
def scrubBlk (n : Nat) (full : Bool) : Blk → Blk
  | .box e cs => .box e (scrubL n full cs)
  | b => b
def scrubH (n : Nat) (full : Bool) : Hp → Hp
  | [] => []
  | x :: r => (match x with | some b => some (scrubBlk n full b) | none => none) :: scrubH n full r
def dropC : List Nat → Hp → Hp
  | [], H => H
  | c :: r, H => dropC r (H.set c none)
theorem scrubH_len (n : Nat) (full : Bool) : ∀ H : Hp, (scrubH n full H).length = H.length
  | [] => rfl
  | x :: r => by simp [scrubH, scrubH_len n full r]
theorem scrubH_get {n : Nat} {full : Bool} : ∀ {H : Hp} {m : Nat} {b : Blk}, (scrubH n full H)[m]? = some (some b) → ∃ c, H[m]? = some (some c) ∧ b = scrubBlk n full c
  | [], m, b, h => by simp [scrubH] at h
  | x :: r, 0, b, h => by
    simp only [scrubH, List.getElem?_cons_zero, Option.some.injEq] at h
    cases x with
    | none => cases h
    | some c => cases h; exact ⟨c, rfl, rfl⟩
  | x :: r, m + 1, b, h => by simpa using scrubH_get (H := r) (m := m) (by simpa [scrubH] using h)
theorem scrubH_of {n : Nat} {full : Bool} : ∀ {H : Hp} {m : Nat} {c : Blk}, H[m]? = some (some c) → (scrubH n full H)[m]? = some (some (scrubBlk n full c))
  | [], m, b, h => by simp at h
  | x :: r, 0, c, h => by simp at h; subst h; simp [scrubH]
  | x :: r, m + 1, c, h => by simpa [scrubH] using scrubH_of (H := r) (m := m) (by simpa using h)
theorem dropC_len : ∀ (C : List Nat) (H : Hp), (dropC C H).length = H.length
  | [], H => rfl
  | c :: r, H => by simp [dropC, dropC_len r]
theorem get_set {H : Hp} {n m : Nat} {x : Option Blk} {C : Blk} (h : (H.set n x)[m]? = some (some C)) : (m = n ∧ x = some C) ∨ (m ≠ n ∧ H[m]? = some (some C)) := by
  by_cases hm : n = m
  · subst hm
    rw [List.getElem?_set] at h
    simp at h
    obtain ⟨_, h⟩ := h
    exact .inl ⟨rfl, h⟩
  · rw [List.getElem?_set_ne hm] at h
    exact .inr ⟨fun e => hm e.symm, h⟩
theorem dropC_get : ∀ {C : List Nat} {H : Hp} {m : Nat} {b : Blk}, (dropC C H)[m]? = some (some b) → m ∉ C ∧ H[m]? = some (some b)
  | [], H, m, b, h => ⟨by simp, h⟩
  | c :: r, H, m, b, h => by
    obtain ⟨h1, h2⟩ := dropC_get (C := r) (by simpa [dropC] using h)
    rcases get_set h2 with ⟨_, h3⟩ | ⟨h3, h4⟩
    · cases h3
    · exact ⟨by simp [h1, h3], h4⟩
theorem lt_of_some {H : Hp} {n : Nat} {B : Blk} (h : H[n]? = some (some B)) : n < H.length := (List.getElem?_eq_some_iff.1 h).1
theorem get_app {H : Hp} {B : Blk} {m : Nat} {C : Blk} (h : (H ++ [some B])[m]? = some (some C)) : (m < H.length ∧ H[m]? = some (some C)) ∨ (m = H.length ∧ C = B) := by
  by_cases hm : m < H.length
  · rw [List.getElem?_append_left hm] at h; exact .inl ⟨hm, h⟩
  · rw [List.getElem?_append_right (by omega)] at h
    have h0 : m - H.length = 0 := by
      rcases Nat.eq_zero_or_pos (m - H.length) with h' | h'
      · exact h'
      · rw [List.getElem?_eq_none (by simp; omega)] at h; cases h
    rw [h0] at h
    simp at h
    exact .inr ⟨by omega, h.symm⟩
section
variable {P : Program} {w0 w w1 : World} {B : Nat → Prop} {hd : Nat → Value} {S : AS} {a : Act} {val : Nat → Bd}
theorem BRel.scrubM {ok ok' : Nat → Prop} {w w' : World} {N N' : Nat} {val val' : Nat → Bd} {n : Nat} {full : Bool} (K : Keep ok ok' w w' N N' val val' n full) {d : Bd} {b : Blk}
    (hh : ∀ g ∈ d.F, w'.heap[g]? = w.heap[g]?) (h : BRel ok w N val d b) : BRel ok' w' N' val' d (scrubBlk n full b) := by
  cases b with
  | row e t l =>
    obtain ⟨xs, h1, h2, h3⟩ := h
    exact ⟨xs, ownsRow_keep h1 (fun g hg => hh g (by rw [h3]; exact hg)), repL_keep K.size K.ok h2, h3⟩
  | rows e e2 t l =>
    obtain ⟨h1, h2, h3, h4⟩ := h
    refine ⟨ownsRow_keep h1 (fun g hg => hh g ((h3 g).2 (.inl (by simpa using hg)))), fun i y hy => ?_, h3, h4⟩
    obtain ⟨h, xs, k1, k2, k3⟩ := h2 i y hy
    exact ⟨h, xs, k1, ownsRow_keep k2 (fun g hg => hh g ((h3 g).2 (.inr ⟨h, List.mem_of_getElem? k1, by simpa using hg⟩))), repL_keep K.size K.ok k3⟩
  | rowsH e e2 t l k =>
    obtain ⟨h1, h2, h3, h4⟩ := h
    refine ⟨ownsRow_keep h1 (fun g hg => hh g ((h3 g).2 (.inl (by simpa using hg)))), fun i y hy hi => ?_, h3, h4⟩
    obtain ⟨h, xs, k1, k2, k3⟩ := h2 i y hy hi
    exact ⟨h, xs, k1, ownsRow_keep k2 (fun g hg => hh g ((h3 g).2 (.inr ⟨i, h, hi, k1, by simpa using hg⟩))), repL_keep K.size K.ok k3⟩
  | box e cs =>
    obtain ⟨g, cur, h1, h2, h3, h4, h5⟩ := h
    exact ⟨g, cur, h1, by rw [hh g (by rw [h5]; simp)]; exact h2, h3.scrub K, h4, h5⟩
  | arr e k t l =>
    obtain ⟨⟨xs, h1, h2, h3⟩, h4⟩ := h
    exact ⟨⟨xs, ownsRow_keep h1 (fun g hg => hh g (by rw [h3]; exact hg)), repL_keep K.size K.ok h2, h3⟩, h4⟩
  | ext s F =>
    obtain ⟨h1, h2⟩ := h
    exact ⟨h1, fun g hg => (hh g (by rw [h1]; exact hg)).trans (h2 g hg)⟩
/-- A new block, which may take in others. -/
theorem Rl.fresh (hR : Rl w0 B hd S a w val) (hb : Below w.heap.size w w1) (C : List Nat) {d : Bd} {b : Blk}
    (hF : ∀ g ∈ d.F, (w.heap.size ≤ g ∧ g < w1.heap.size) ∨ ∃ c, c ∈ C ∧ (∃ b', S.H[c]? = some (some b')) ∧ g ∈ (val c).F)
    (hB : ∀ val', (∀ m, m < S.H.length → val' m = val m) → val' S.H.length = d →
      (∀ b', okF S.H val b' → b' < w.heap.size → okF (dropC C S.H ++ [some b]) val' b' ∧ w1.heap[b']? = w.heap[b']?) → BRel (okF (dropC C S.H ++ [some b]) val') w1 (S.H.length + 1) val' d b) :
    Rl w0 B hd { S with H := dropC C S.H ++ [some b] } a w1 (upd val S.H.length d) := by
  have hlen : (dropC C S.H ++ [some b]).length = S.H.length + 1 := by simp [dropC_len]
  have get : ∀ {m : Nat} {X : Blk}, (dropC C S.H ++ [some b])[m]? = some (some X) → (m < S.H.length ∧ m ∉ C ∧ S.H[m]? = some (some X)) ∨ (m = S.H.length ∧ X = b) := fun {m X} h => by
    rcases get_app h with ⟨h1, h2⟩ | ⟨h1, h2⟩
    · obtain ⟨h3, h4⟩ := dropC_get h2
      exact .inl ⟨by simpa [dropC_len] using h1, h3, h4⟩
    · exact .inr ⟨by simpa [dropC_len] using h1, h2⟩
  have hlt : ∀ m, m < S.H.length → upd val S.H.length d m = val m := fun m hm => upd_ne val d (by omega)
  have hok : ∀ b', okF S.H val b' → b' < w.heap.size → okF (dropC C S.H ++ [some b]) (upd val S.H.length d) b' ∧ w1.heap[b']? = w.heap[b']? := fun b' hk hl => by
    refine ⟨fun m X hX hg => ?_, hb.block b' hl⟩
    rcases get hX with ⟨h1, _, h3⟩ | ⟨rfl, rfl⟩
    · rw [hlt m h1] at hg; exact hk m X h3 hg
    · rw [upd_self] at hg
      rcases hF b' hg with h | ⟨c, _, ⟨b2, h2⟩, h3⟩
      · omega
      · exact hk c b2 h2 h3
  have K : Keep0 (okF S.H val) (okF (dropC C S.H ++ [some b]) (upd val S.H.length d)) w w1 S.H.length (dropC C S.H ++ [some b]).length val (upd val S.H.length d) :=
    ⟨hb.size, hok, by omega, fun m hm => by rw [hlt m hm], fun m hm => by rw [hlt m hm]⟩
  refine ⟨hR.fr.trans hb, hR.len, hR.defers, fun t => (hR.tmps t).keep K, ⟨fun m X hX => ?_, fun m X hX g hg => ?_, fun m k X Y hne hX hY g hg hg' => ?_⟩, fun m X hX g hg => ?_, fun m hm => by rw [hlt m (Nat.lt_of_lt_of_le hm hR.kle)]; exact hR.kept m hm, by have := hR.kle; simp only [hlen]; omega⟩
  · rcases get hX with ⟨h1, _, h3⟩ | ⟨rfl, rfl⟩
    · rw [hlt m h1]
      exact (hR.heap.blk m X h3).keep K fun g hg => hb.block g (hR.heap.lt m X h3 g hg)
    · rw [upd_self, hlen]
      exact hB _ hlt (upd_self _ _ _) hok
  · rcases get hX with ⟨h1, _, h3⟩ | ⟨rfl, rfl⟩
    · rw [hlt m h1] at hg; exact Nat.lt_of_lt_of_le (hR.heap.lt m X h3 g hg) hb.size
    · rw [upd_self] at hg
      rcases hF g hg with h | ⟨c, _, ⟨b2, h2⟩, h3⟩
      · exact h.2
      · exact Nat.lt_of_lt_of_le (hR.heap.lt c b2 h2 g h3) hb.size
  · rcases get hX with ⟨h1, h1', h3⟩ | ⟨rfl, rfl⟩ <;> rcases get hY with ⟨k1, k1', k3⟩ | ⟨rfl, rfl⟩
    · rw [hlt m h1] at hg; rw [hlt k k1] at hg'; exact hR.heap.apart m k X Y hne h3 k3 g hg hg'
    · rw [hlt m h1] at hg; rw [upd_self] at hg'
      rcases hF g hg' with h | ⟨c, hc, ⟨b2, h2⟩, h4⟩
      · have := hR.heap.lt m X h3 g hg; omega
      · exact hR.heap.apart m c X b2 (fun e => h1' (e ▸ hc)) h3 h2 g hg h4
    · rw [upd_self] at hg; rw [hlt k k1] at hg'
      rcases hF g hg with h | ⟨c, hc, ⟨b2, h2⟩, h4⟩
      · have := hR.heap.lt k Y k3 g hg'; omega
      · exact hR.heap.apart k c Y b2 (fun e => k1' (e ▸ hc)) k3 h2 g hg' h4
    · exact hne rfl
  · rcases get hX with ⟨h1, _, h3⟩ | ⟨rfl, rfl⟩
    · rw [hlt m h1] at hg; exact hR.own m X h3 g hg
    · rw [upd_self] at hg
      rcases hF g hg with h | ⟨c, _, ⟨b2, h2⟩, h3⟩
      · exact .inl (Nat.le_trans hR.fr.size h.1)
      · exact hR.own c b2 h2 g h3
/-- A block of the call's own is written where it lies: all others are as they were. -/
theorem Rl.write (hR : Rl w0 B hd S a w val) {n : Nat} {b b' : Blk} (hB : S.H[n]? = some (some b))
    (hsz : w1.heap.size = w.heap.size) (ho : w1.os = w.os) (htp : w1.tape = w.tape) (hout : w1.output = w.output) (hh : ∀ k, k ∉ (val n).F → w1.heap[k]? = w.heap[k]?)
    (hB' : Keep0 (okF S.H val) (okF S.H val) w w1 S.H.length S.H.length val val → BRel (okF S.H val) w1 S.H.length val (val n) b') :
    Rl w0 B hd { S with H := S.H.set n (some b') } a w1 val := by
  have hkk : okF (S.H.set n (some b')) val = okF S.H val := by
    funext g
    apply propext
    constructor
    · intro h m X hX hgm
      by_cases hm : m = n
      · subst hm
        exact h m b' (by rw [List.getElem?_set_self (lt_of_some hB)]) hgm
      · exact h m X (by rw [List.getElem?_set_ne (Ne.symm hm)]; exact hX) hgm
    · intro h m X hX hgm
      rcases get_set hX with ⟨rfl, _⟩ | ⟨_, hX⟩
      · exact h m b hB hgm
      · exact h m X hX hgm
  have K : Keep0 (okF S.H val) (okF S.H val) w w1 S.H.length S.H.length val val :=
    ⟨by omega, fun g hk hlt => ⟨hk, hh g (hk n b hB)⟩, Nat.le_refl _, fun _ _ => rfl, fun _ _ => rfl⟩
  have f : ∀ {x : Nat} {X : Blk}, (S.H.set n (some b'))[x]? = some (some X) → ∃ Y, S.H[x]? = some (some Y) := fun {x X} hX => by
    rcases get_set hX with ⟨rfl, _⟩ | ⟨_, hX⟩
    · exact ⟨b, hB⟩
    · exact ⟨X, hX⟩
  refine ⟨⟨ho.trans hR.fr.os, htp.trans hR.fr.tape, hout.trans hR.fr.output, by have := hR.fr.size; omega, fun g hg hgB => ?_⟩, hR.len, hR.defers, fun t => ?_, ⟨fun m X hX => ?_, fun m X hX g hg => ?_, fun m k X Y hne hX hY => ?_⟩, fun m X hX g hg => ?_, hR.kept, by simpa using hR.kle⟩
  · rw [hh g fun hgF => ?_]
    · exact hR.fr.same g hg hgB
    · rcases hR.own n b hB g hgF with h | h
      · omega
      · exact hgB h
  · rw [hkk]
    simp only [List.length_set]
    exact (hR.tmps t).keep K
  · rw [hkk]
    simp only [List.length_set]
    rcases get_set hX with ⟨rfl, h⟩ | ⟨hne, hX⟩
    · cases h; exact hB' K
    · exact (hR.heap.blk m X hX).keep K fun q hq => hh q fun e => hR.heap.apart m n X b hne hX hB q hq e
  · obtain ⟨Y, hY⟩ := f hX
    have := hR.heap.lt m Y hY g hg
    omega
  · obtain ⟨X', hX'⟩ := f hX
    obtain ⟨Y', hY'⟩ := f hY
    exact hR.heap.apart m k X' Y' hne hX' hY'
  · obtain ⟨Y, hY⟩ := f hX
    exact hR.own m Y hY g hg
/-- A block of the call's own has changed, its value or that of its rows too; it may have taken in others. -/
theorem Rl.renew (hR : Rl w0 B hd S a w val) {n : Nat} {b b' : Blk} (hB : S.H[n]? = some (some b)) (full : Bool) (C : List Nat) (hC : n ∉ C) {d : Bd} (hv : full = false → d.v = (val n).v) (hkn : full = true → S.k ≤ n)
    (hsz : w.heap.size ≤ w1.heap.size) (ho : w1.os = w.os) (htp : w1.tape = w.tape) (hout : w1.output = w.output) (hh : ∀ k, k < w.heap.size → k ∉ (val n).F → w1.heap[k]? = w.heap[k]?)
    (hF : ∀ g ∈ d.F, (w.heap.size ≤ g ∧ g < w1.heap.size) ∨ g ∈ (val n).F ∨ ∃ c, c ∈ C ∧ (∃ b', S.H[c]? = some (some b')) ∧ g ∈ (val c).F)
    (hB' : ∀ val' H', val' n = d → (∀ m, m ≠ n → val' m = val m) → (∀ g, okF S.H val g → g < w.heap.size → okF H' val' g ∧ w1.heap[g]? = w.heap[g]?) → BRel (okF H' val') w1 S.H.length val' d b') :
    Rl w0 B hd { S with tm := scrubL n full S.tm, H := (scrubH n full (dropC C S.H)).set n (some b') } a w1 (upd val n d) := by
  have hlen : ((scrubH n full (dropC C S.H)).set n (some b')).length = S.H.length := by simp [dropC_len, scrubH_len]
  have get : ∀ {m : Nat} {X : Blk}, ((scrubH n full (dropC C S.H)).set n (some b'))[m]? = some (some X) → (m ≠ n ∧ m ∉ C ∧ ∃ Y, S.H[m]? = some (some Y) ∧ X = scrubBlk n full Y) ∨ (m = n ∧ X = b') := fun {m X} h => by
    rcases get_set h with ⟨rfl, h2⟩ | ⟨h1, h2⟩
    · cases h2; exact .inr ⟨rfl, rfl⟩
    · obtain ⟨Y, h3, h4⟩ := scrubH_get h2
      obtain ⟨h5, h6⟩ := dropC_get h3
      exact .inl ⟨h1, h5, Y, h6, h4⟩
  have hne : ∀ m, m ≠ n → upd val n d m = val m := fun m hm => upd_ne val d hm
  have hok : ∀ g, okF S.H val g → g < w.heap.size → okF ((scrubH n full (dropC C S.H)).set n (some b')) (upd val n d) g ∧ w1.heap[g]? = w.heap[g]? := fun g hk hl => by
    refine ⟨fun m X hX hg => ?_, hh g hl (hk n b hB)⟩
    rcases get hX with ⟨h1, _, Y, h3, _⟩ | ⟨rfl, rfl⟩
    · rw [hne m h1] at hg; exact hk m Y h3 hg
    · rw [upd_self] at hg
      rcases hF g hg with h | h | ⟨c, _, ⟨b2, h2⟩, h3⟩
      · omega
      · exact hk m b hB h
      · exact hk c b2 h2 h3
  have K : Keep (okF S.H val) (okF ((scrubH n full (dropC C S.H)).set n (some b')) (upd val n d)) w w1 S.H.length ((scrubH n full (dropC C S.H)).set n (some b')).length val (upd val n d) n full := by
    refine ⟨hsz, hok, by omega, fun m hm h => ?_, fun m hm h => ?_⟩
    · by_cases hmn : m = n
      · subst hmn
        rw [upd_self]
        exact hv (by simpa using h)
      · rw [hne m hmn]
    · rw [hne m (by simpa using h)]
  refine ⟨⟨ho.trans hR.fr.os, htp.trans hR.fr.tape, hout.trans hR.fr.output, by have := hR.fr.size; omega, fun g hg hgB => ?_⟩, by simp [scrubL_len, hR.len], hR.defers, fun t => ?_, ⟨fun m X hX => ?_, fun m X hX g hg => ?_, fun m k X Y hmk hX hY g hg hg' => ?_⟩, fun m X hX g hg => ?_, fun m hm => ?_, by have := hR.kle; simp only [hlen]; omega⟩
  · have := hR.fr.size
    rw [hh g (by omega) fun hgF => ?_]
    · exact hR.fr.same g hg hgB
    · rcases hR.own n b hB g hgF with h | h
      · omega
      · exact hgB h
  · have h := (hR.tmps t).scrub K
    have e : (scrubL n full S.tm).getD t .undef = scrub n full (S.tm.getD t .undef) := by
      rw [List.getD_eq_getElem?_getD, List.getD_eq_getElem?_getD, scrubL_get]
      cases S.tm[t]? <;> simp [scrub]
    rw [e]
    exact h
  · rcases get hX with ⟨h1, _, Y, h3, rfl⟩ | ⟨rfl, rfl⟩
    · rw [hne m h1]
      exact (hR.heap.blk m Y h3).scrubM K fun g hg => hh g (hR.heap.lt m Y h3 g hg) fun e => hR.heap.apart m n Y b h1 h3 hB g hg e
    · rw [upd_self, hlen]
      exact hB' _ _ (upd_self _ _ _) hne hok
  · rcases get hX with ⟨h1, _, Y, h3, rfl⟩ | ⟨rfl, rfl⟩
    · rw [hne m h1] at hg; have := hR.heap.lt m Y h3 g hg; omega
    · rw [upd_self] at hg
      rcases hF g hg with h | h | ⟨c, _, ⟨b2, h2⟩, h3⟩
      · exact h.2
      · have := hR.heap.lt m b hB g h; omega
      · have := hR.heap.lt c b2 h2 g h3; omega
  · have away : ∀ {m : Nat} {Y : Blk} {g : Nat}, m ≠ n → m ∉ C → S.H[m]? = some (some Y) → g ∈ (val m).F → g ∉ d.F := fun {m Y g} h1 h1' h3 hg hd => by
      rcases hF g hd with h | h | ⟨c, hc, ⟨b2, h2⟩, h4⟩
      · have := hR.heap.lt m Y h3 g hg; omega
      · exact hR.heap.apart m n Y b h1 h3 hB g hg h
      · exact hR.heap.apart m c Y b2 (fun e => h1' (e ▸ hc)) h3 h2 g hg h4
    rcases get hX with ⟨h1, h1', Y1, h3, rfl⟩ | ⟨rfl, rfl⟩ <;> rcases get hY with ⟨k1, k1', Y2, k3, rfl⟩ | ⟨rfl, rfl⟩
    · rw [hne m h1] at hg; rw [hne k k1] at hg'; exact hR.heap.apart m k Y1 Y2 hmk h3 k3 g hg hg'
    · rw [hne m h1] at hg; rw [upd_self] at hg'; exact away h1 h1' h3 hg hg'
    · rw [upd_self] at hg; rw [hne k k1] at hg'; exact away k1 k1' k3 hg' hg
    · exact hmk rfl
  · rcases get hX with ⟨h1, _, Y, h3, rfl⟩ | ⟨rfl, rfl⟩
    · rw [hne m h1] at hg; exact hR.own m Y h3 g hg
    · rw [upd_self] at hg
      rcases hF g hg with h | h | ⟨c, _, ⟨b2, h2⟩, h3⟩
      · exact .inl (Nat.le_trans hR.fr.size h.1)
      · exact hR.own m b hB g h
      · exact hR.own c b2 h2 g h3
  · by_cases hmn : m = n
    · subst hmn
      rw [upd_self]
      cases full with
      | true => have := hkn rfl; simp only at hm; omega
      | false => rw [hv rfl]; exact hR.kept m hm
    · rw [hne m hmn]; exact hR.kept m hm
/-- A block's memory has gone over into a new one. -/
theorem Rl.take (hR : Rl w0 B hd S a w val) {n : Nat} {b0 b : Blk} (hB : S.H[n]? = some (some b0)) {d : Bd}
    (hsz : w.heap.size ≤ w1.heap.size) (ho : w1.os = w.os) (htp : w1.tape = w.tape) (hout : w1.output = w.output) (hh : ∀ k, k < w.heap.size → k ∉ (val n).F → w1.heap[k]? = w.heap[k]?)
    (hF : ∀ g ∈ d.F, (w.heap.size ≤ g ∧ g < w1.heap.size) ∨ g ∈ (val n).F)
    (hB' : ∀ val' H', val' S.H.length = d → (∀ m, m < S.H.length → val' m = val m) → (∀ g, okF S.H val g → g < w.heap.size → okF H' val' g ∧ w1.heap[g]? = w.heap[g]?) → BRel (okF H' val') w1 (S.H.length + 1) val' d b) :
    Rl w0 B hd { S with H := dropC [n] S.H ++ [some b] } a w1 (upd val S.H.length d) := by
  have hlen : (dropC [n] S.H ++ [some b]).length = S.H.length + 1 := by simp [dropC_len]
  have get : ∀ {m : Nat} {X : Blk}, (dropC [n] S.H ++ [some b])[m]? = some (some X) → (m < S.H.length ∧ m ≠ n ∧ S.H[m]? = some (some X)) ∨ (m = S.H.length ∧ X = b) := fun {m X} h => by
    rcases get_app h with ⟨h1, h2⟩ | ⟨h1, h2⟩
    · obtain ⟨h3, h4⟩ := dropC_get h2
      exact .inl ⟨by simpa [dropC_len] using h1, by simpa using h3, h4⟩
    · exact .inr ⟨by simpa [dropC_len] using h1, h2⟩
  have hlt : ∀ m, m < S.H.length → upd val S.H.length d m = val m := fun m hm => upd_ne val d (by omega)
  have hok : ∀ g, okF S.H val g → g < w.heap.size → okF (dropC [n] S.H ++ [some b]) (upd val S.H.length d) g ∧ w1.heap[g]? = w.heap[g]? := fun g hk hl => by
    refine ⟨fun m X hX hg => ?_, hh g hl (hk n b0 hB)⟩
    rcases get hX with ⟨h1, _, h3⟩ | ⟨rfl, rfl⟩
    · rw [hlt m h1] at hg; exact hk m X h3 hg
    · rw [upd_self] at hg
      rcases hF g hg with h | h
      · omega
      · exact hk n b0 hB h
  have K : Keep0 (okF S.H val) (okF (dropC [n] S.H ++ [some b]) (upd val S.H.length d)) w w1 S.H.length (dropC [n] S.H ++ [some b]).length val (upd val S.H.length d) :=
    ⟨hsz, hok, by omega, fun m hm => by rw [hlt m hm], fun m hm => by rw [hlt m hm]⟩
  have away : ∀ {m : Nat} {Y : Blk} {g : Nat}, m ≠ n → S.H[m]? = some (some Y) → g ∈ (val m).F → g ∉ d.F := fun {m Y g} h1 h3 hg hdF => by
    rcases hF g hdF with h | h
    · have := hR.heap.lt m Y h3 g hg; omega
    · exact hR.heap.apart m n Y b0 h1 h3 hB g hg h
  refine ⟨⟨ho.trans hR.fr.os, htp.trans hR.fr.tape, hout.trans hR.fr.output, by have := hR.fr.size; omega, fun g hg hgB => ?_⟩, hR.len, hR.defers, fun t => (hR.tmps t).keep K, ⟨fun m X hX => ?_, fun m X hX g hg => ?_, fun m k X Y hne hX hY g hg hg' => ?_⟩, fun m X hX g hg => ?_, fun m hm => by rw [hlt m (Nat.lt_of_lt_of_le hm hR.kle)]; exact hR.kept m hm, by have := hR.kle; simp only [hlen]; omega⟩
  · have := hR.fr.size
    rw [hh g (by omega) fun hgF => ?_]
    · exact hR.fr.same g hg hgB
    · rcases hR.own n b0 hB g hgF with h | h
      · omega
      · exact hgB h
  · rcases get hX with ⟨h1, h2, h3⟩ | ⟨rfl, rfl⟩
    · rw [hlt m h1]
      exact (hR.heap.blk m X h3).keep K fun g hg => hh g (hR.heap.lt m X h3 g hg) fun e => hR.heap.apart m n X b0 h2 h3 hB g hg e
    · rw [upd_self, hlen]
      exact hB' _ _ (upd_self _ _ _) hlt hok
  · rcases get hX with ⟨h1, _, h3⟩ | ⟨rfl, rfl⟩
    · rw [hlt m h1] at hg; have := hR.heap.lt m X h3 g hg; omega
    · rw [upd_self] at hg
      rcases hF g hg with h | h
      · exact h.2
      · have := hR.heap.lt n b0 hB g h; omega
  · rcases get hX with ⟨h1, h2, h3⟩ | ⟨rfl, rfl⟩ <;> rcases get hY with ⟨k1, k2, k3⟩ | ⟨rfl, rfl⟩
    · rw [hlt m h1] at hg; rw [hlt k k1] at hg'; exact hR.heap.apart m k X Y hne h3 k3 g hg hg'
    · rw [hlt m h1] at hg; rw [upd_self] at hg'; exact away h2 h3 hg hg'
    · rw [upd_self] at hg; rw [hlt k k1] at hg'; exact away k2 k3 hg' hg
    · exact hne rfl
  · rcases get hX with ⟨h1, _, h3⟩ | ⟨rfl, rfl⟩
    · rw [hlt m h1] at hg; exact hR.own m X h3 g hg
    · rw [upd_self] at hg
      rcases hF g hg with h | h
      · exact .inl (Nat.le_trans hR.fr.size h.1)
      · exact hR.own n b0 hB g h
/-- A block has handed a part of its memory over into a new one. -/
theorem Rl.split (hR : Rl w0 B hd S a w val) {n : Nat} {b0 b1 b2 : Blk} (hB : S.H[n]? = some (some b0)) {d1 d2 : Bd} (hv : d1.v = (val n).v)
    (hsz : w.heap.size ≤ w1.heap.size) (ho : w1.os = w.os) (htp : w1.tape = w.tape) (hout : w1.output = w.output) (hh : ∀ k, k < w.heap.size → k ∉ (val n).F → w1.heap[k]? = w.heap[k]?)
    (hF1 : ∀ g ∈ d1.F, g ∈ (val n).F) (hF2 : ∀ g ∈ d2.F, (w.heap.size ≤ g ∧ g < w1.heap.size) ∨ g ∈ (val n).F) (hap : ∀ g ∈ d1.F, g ∉ d2.F)
    (hB1 : ∀ val' H' N', (∀ g, okF S.H val g → g < w.heap.size → okF H' val' g ∧ w1.heap[g]? = w.heap[g]?) → BRel (okF H' val') w1 N' val' d1 b1)
    (hB2 : ∀ val' H' N', (∀ g, okF S.H val g → g < w.heap.size → okF H' val' g ∧ w1.heap[g]? = w.heap[g]?) → BRel (okF H' val') w1 N' val' d2 b2) :
    Rl w0 B hd { S with tm := scrubL n false S.tm, H := (scrubH n false S.H).set n (some b1) ++ [some b2] } a w1 (upd (upd val n d1) S.H.length d2) := by
  have hnl := lt_of_some hB
  have hlen : ((scrubH n false S.H).set n (some b1) ++ [some b2]).length = S.H.length + 1 := by simp [scrubH_len]
  have hlt : ∀ m, m < S.H.length → m ≠ n → upd (upd val n d1) S.H.length d2 m = val m := fun m hm hmn => by rw [upd_ne _ _ (by omega), upd_ne _ _ hmn]
  have hn1 : upd (upd val n d1) S.H.length d2 n = d1 := by rw [upd_ne _ _ (by omega), upd_self]
  have hn2 : upd (upd val n d1) S.H.length d2 S.H.length = d2 := upd_self _ _ _
  have get : ∀ {m : Nat} {X : Blk}, ((scrubH n false S.H).set n (some b1) ++ [some b2])[m]? = some (some X) → (m < S.H.length ∧ m ≠ n ∧ ∃ Y, S.H[m]? = some (some Y) ∧ X = scrubBlk n false Y) ∨ (m = n ∧ X = b1) ∨ (m = S.H.length ∧ X = b2) := fun {m X} h => by
    rcases get_app h with ⟨h1, h2⟩ | ⟨h1, h2⟩
    · rcases get_set h2 with ⟨h3, h4⟩ | ⟨h3, h4⟩
      · cases h4; exact .inr (.inl ⟨h3, rfl⟩)
      · obtain ⟨Y, h5, h6⟩ := scrubH_get h4
        exact .inl ⟨lt_of_some h5, h3, Y, h5, h6⟩
    · exact .inr (.inr ⟨by simpa [scrubH_len] using h1, h2⟩)
  generalize hH' : (scrubH n false S.H).set n (some b1) ++ [some b2] = H' at hlen get ⊢
  generalize hval' : upd (upd val n d1) S.H.length d2 = val' at hlt hn1 hn2 ⊢
  have hok : ∀ g, okF S.H val g → g < w.heap.size → okF H' val' g ∧ w1.heap[g]? = w.heap[g]? := fun g hk hl => by
    refine ⟨fun m X hX hg => ?_, hh g hl (hk n b0 hB)⟩
    rcases get hX with ⟨h1, h1', Y, h3, _⟩ | ⟨h1, _⟩ | ⟨h1, _⟩
    · rw [hlt m h1 h1'] at hg; exact hk m Y h3 hg
    · rw [h1, hn1] at hg; exact hk n b0 hB (hF1 g hg)
    · rw [h1, hn2] at hg
      rcases hF2 g hg with h | h
      · omega
      · exact hk n b0 hB h
  have K : Keep (okF S.H val) (okF H' val') w w1 S.H.length H'.length val val' n false := by
    refine ⟨hsz, hok, by omega, fun m hm h => ?_, fun m hm h => ?_⟩
    · by_cases hmn : m = n
      · rw [hmn, hn1]; exact hv
      · rw [hlt m hm hmn]
    · rw [hlt m hm (by simpa using h)]
  have away1 : ∀ {m : Nat} {Y : Blk} {g : Nat}, m ≠ n → S.H[m]? = some (some Y) → g ∈ (val m).F → g ∉ d1.F := fun {m Y g} h1 h3 hg hdF => hR.heap.apart m n Y b0 h1 h3 hB g hg (hF1 g hdF)
  have away2 : ∀ {m : Nat} {Y : Blk} {g : Nat}, m ≠ n → S.H[m]? = some (some Y) → g ∈ (val m).F → g ∉ d2.F := fun {m Y g} h1 h3 hg hdF => by
    rcases hF2 g hdF with h | h
    · have := hR.heap.lt m Y h3 g hg; omega
    · exact hR.heap.apart m n Y b0 h1 h3 hB g hg h
  refine ⟨⟨ho.trans hR.fr.os, htp.trans hR.fr.tape, hout.trans hR.fr.output, by have := hR.fr.size; omega, fun g hg hgB => ?_⟩, by simp [scrubL_len, hR.len], hR.defers, fun t => ?_, ⟨fun m X hX => ?_, fun m X hX g hg => ?_, fun m k X Y hmk hX hY g hg hg' => ?_⟩, fun m X hX g hg => ?_, fun m hm => ?_, by have := hR.kle; simp only [hlen]; omega⟩
  · have := hR.fr.size
    rw [hh g (by omega) fun hgF => ?_]
    · exact hR.fr.same g hg hgB
    · rcases hR.own n b0 hB g hgF with h | h
      · omega
      · exact hgB h
  · have h := (hR.tmps t).scrub K
    have e : (scrubL n false S.tm).getD t .undef = scrub n false (S.tm.getD t .undef) := by
      rw [List.getD_eq_getElem?_getD, List.getD_eq_getElem?_getD, scrubL_get]
      cases S.tm[t]? <;> simp [scrub]
    rw [e]
    exact h
  · rcases get hX with ⟨h1, h1', Y, h3, rfl⟩ | ⟨h1, rfl⟩ | ⟨h1, rfl⟩
    · rw [hlt m h1 h1']
      exact (hR.heap.blk m Y h3).scrubM K fun g hg => hh g (hR.heap.lt m Y h3 g hg) fun e => hR.heap.apart m n Y b0 h1' h3 hB g hg e
    · rw [h1, hn1]; exact hB1 _ _ _ hok
    · rw [h1, hn2]; exact hB2 _ _ _ hok
  · rcases get hX with ⟨h1, h1', Y, h3, rfl⟩ | ⟨h1, rfl⟩ | ⟨h1, rfl⟩
    · rw [hlt m h1 h1'] at hg; have := hR.heap.lt m Y h3 g hg; omega
    · rw [h1, hn1] at hg; have := hR.heap.lt n b0 hB g (hF1 g hg); omega
    · rw [h1, hn2] at hg
      rcases hF2 g hg with h | h
      · exact h.2
      · have := hR.heap.lt n b0 hB g h; omega
  · rcases get hX with ⟨h1, h1', Y1, h3, rfl⟩ | ⟨h1, rfl⟩ | ⟨h1, rfl⟩ <;> rcases get hY with ⟨k1, k1', Y2, k3, rfl⟩ | ⟨k1, rfl⟩ | ⟨k1, rfl⟩
    · rw [hlt m h1 h1'] at hg; rw [hlt k k1 k1'] at hg'; exact hR.heap.apart m k Y1 Y2 hmk h3 k3 g hg hg'
    · rw [hlt m h1 h1'] at hg; rw [k1, hn1] at hg'; exact away1 h1' h3 hg hg'
    · rw [hlt m h1 h1'] at hg; rw [k1, hn2] at hg'; exact away2 h1' h3 hg hg'
    · rw [h1, hn1] at hg; rw [hlt k k1 k1'] at hg'; exact away1 k1' k3 hg' hg
    · exact hmk (h1.trans k1.symm)
    · rw [h1, hn1] at hg; rw [k1, hn2] at hg'; exact hap g hg hg'
    · rw [h1, hn2] at hg; rw [hlt k k1 k1'] at hg'; exact away2 k1' k3 hg' hg
    · rw [h1, hn2] at hg; rw [k1, hn1] at hg'; exact hap g hg' hg
    · exact hmk (h1.trans k1.symm)
  · rcases get hX with ⟨h1, h1', Y, h3, rfl⟩ | ⟨h1, rfl⟩ | ⟨h1, rfl⟩
    · rw [hlt m h1 h1'] at hg; exact hR.own m Y h3 g hg
    · rw [h1, hn1] at hg; exact hR.own n b0 hB g (hF1 g hg)
    · rw [h1, hn2] at hg
      rcases hF2 g hg with h | h
      · exact .inl (Nat.le_trans hR.fr.size h.1)
      · exact hR.own n b0 hB g h
  · have hml : m < S.H.length := Nat.lt_of_lt_of_le hm hR.kle
    by_cases hmn : m = n
    · rw [hmn, hn1, hv, ← hmn]; exact hR.kept m hm
    · rw [hlt m hml hmn]; exact hR.kept m hm
end
end Go.Proofs.Ytemdajfcfmefnaa.M

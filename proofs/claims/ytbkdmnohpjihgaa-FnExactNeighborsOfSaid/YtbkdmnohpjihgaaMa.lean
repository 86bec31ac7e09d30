/- Values whose data lie behind a function of the unit (so that reduction leaves them), memory with rows of rows, and how they stand to the world. -/
import Derived.Test.YtbkdmnohpjihgaaAbs14
namespace Go.Proofs.Ytbkdmnohpjihgaa.M
open Go.RowKit Abs
set_option linter.unusedVariables false
set_option linter.unusedSimpArgs false

theorem ite_t {α : Sort _} (a b : α) : (if true = true then a else b) = a := rfl
theorem ite_f {α : Sort _} (a b : α) : (if false = true then a else b) = b := rfl

inductive AV where
  | int (x : Unit → Int) | lit (b : Bool) | bool (b : Unit → Bool) | str (s : Unit → ByteArray) | u8 (x : Unit → Int) | u64 (x : Unit → Int)
  | sl (t : Ty) (l : Unit → List t.den)
  | agg (t : Ty) (x : Unit → t.den)
  | cells (l : List AV)
  | ref (n : Nat)
  | ptr (n i : Nat)
  | eptr (n : Nat) (i : Unit → Int) (k : Nat)
  | elem (n : Nat) (i : Unit → Int)
  | eelem (n : Nat) (i j : Unit → Int) (k : Nat)
  | iptr (t : Ty) (x : Unit → t.den)
  | ibox (cs : List AV) (i : Nat)
  | tup (l : List AV)
  | fn (f : FuncId) (cap : List AV)
  | nilsl | undef | junk
inductive Blk where
  | row (e : TypeId) (t : Ty) (l : Unit → List t.den)
  | rows (e e2 : TypeId) (t : Ty) (l : Unit → List (List t.den))
  /-- Rows, of which one has been handed out. -/
  | rowsH (e e2 : TypeId) (t : Ty) (l : Unit → List (List t.den)) (k : Unit → Int)
  | box (e : TypeId) (cs : List AV)
abbrev Hp := List (Option Blk)
/-- Values of temporaries, blocks; of which the first k came in (and lie where they lay). -/
structure AS where
  tm : List AV
  H : Hp
  k : Nat
/-- What a name of a block is bound to: the value that leads to it, the values of its rows, the blocks of memory that it takes. -/
structure Bd where
  v : Value
  hs : List Value
  F : List Nat
instance : Inhabited Bd := ⟨⟨undef, [], []⟩⟩

section
variable (ok : Nat → Prop) (w : World) (N : Nat) (val : Nat → Bd)
mutual
def VRel : AV → Value → Prop
  | .int x, v => v = .int .i64 (x ())
  | .lit b, v => v = .bool b
  | .bool b, v => v = .bool (b ())
  | .str s, v => v = .string (s ())
  | .u8 x, v => v = .int .u8 (x ())
  | .u64 x, v => v = .int .u64 (x ())
  | .sl t l, v => Rep ok w (.sl t) (l ()) [v]
  | .agg t x, v => ∃ cs : List Value, v = .agg cs.toArray ∧ Rep ok w t (x ()) cs
  | .cells l, v => ∃ cs : List Value, v = .agg cs.toArray ∧ VRelL l cs ∧ ∀ u ∈ cs, u.oneCell' = true
  | .ref n, v => n < N ∧ v = (val n).v
  | .ptr n i, v => n < N ∧ ∃ g, (val n).v = .pointer (some ⟨g, 0, none⟩) ∧ v = .pointer (some ⟨g, i, none⟩)
  | .eptr n i k, v => n < N ∧ ∃ g len cap, (val n).v = .slice (some ⟨g, 0, none⟩) len cap ∧ 0 ≤ i () ∧ i () < (len : Int) ∧ v = .pointer (some ⟨g, (i ()).toNat * k, none⟩)
  | .elem n i, v => n < N ∧ 0 ≤ i () ∧ (val n).hs[(i ()).toNat]? = some v
  | .eelem n i j k, v => n < N ∧ 0 ≤ i () ∧ ∃ g len cap, (val n).hs[(i ()).toNat]? = some (.slice (some ⟨g, 0, none⟩) len cap) ∧ 0 ≤ j () ∧ j () < (len : Int) ∧ v = .pointer (some ⟨g, (j ()).toNat * k, none⟩)
  | .iptr t x, v => PRel ok w t (x ()) v
  | .ibox cs i, v => ∃ (b : Nat) (us : List Value), v = .pointer (some ⟨b, i, none⟩) ∧ ok b ∧ b < w.heap.size ∧ (∀ (j : Nat) (u : Value), us[j]? = some u → w.cell? ⟨b, j, none⟩ = some u) ∧ VRelL cs us ∧ ∀ u ∈ us, u.oneCell' = true
  | .tup l, v => ∃ vs : List Value, v = .tuple vs.toArray ∧ VRelL l vs
  | .fn f cap, v => ∃ vs : List Value, v = .func (.func f) #[] vs.toArray ∧ VRelL cap vs
  | .nilsl, v => v = .slice none 0 0
  | .undef, v => v = .tuple #[]
  | .junk, _ => True
def VRelL : List AV → List Value → Prop
  | [], [] => True
  | x :: xs, v :: vs => VRel x v ∧ VRelL xs vs
  | _, _ => False
end
end
section
variable {ok ok' : Nat → Prop} {w w' : World} {N N' : Nat} {val val' : Nat → Bd}
theorem VRelL.len : ∀ {xs : List AV} {vs : List Value}, VRelL ok w N val xs vs → vs.length = xs.length
  | [], [], _ => rfl
  | [], _ :: _, h => by simp [VRelL] at h
  | _ :: _, [], h => by simp [VRelL] at h
  | x :: xs, v :: vs, h => by simp only [VRelL] at h; simp [VRelL.len h.2]
theorem VRelL.get : ∀ {xs : List AV} {vs : List Value} {i : Nat} {x : AV}, VRelL ok w N val xs vs → xs[i]? = some x → ∃ v, vs[i]? = some v ∧ VRel ok w N val x v
  | [], [], i, x, _, h => by simp at h
  | [], _ :: _, _, _, h, _ => by simp [VRelL] at h
  | _ :: _, [], _, _, h, _ => by simp [VRelL] at h
  | x :: xs, v :: vs, i, y, h, hy => by
    simp only [VRelL] at h
    cases i with
    | zero => simp at hy; subst hy; exact ⟨v, rfl, h.1⟩
    | succ i => simpa using VRelL.get h.2 (by simpa using hy)
theorem VRelL.of : ∀ {xs : List AV} {vs : List Value}, vs.length = xs.length → (∀ (i : Nat) (x : AV), xs[i]? = some x → ∃ v, vs[i]? = some v ∧ VRel ok w N val x v) → VRelL ok w N val xs vs
  | [], [], _, _ => by simp [VRelL]
  | [], _ :: _, h, _ => by simp at h
  | _ :: _, [], h, _ => by simp at h
  | x :: xs, v :: vs, h, hr => by
    simp only [VRelL]
    refine ⟨?_, VRelL.of (by simpa using h) fun i y hy => by simpa using hr (i + 1) y (by simpa using hy)⟩
    obtain ⟨u, hu, hv⟩ := hr 0 x rfl
    simp at hu; subst hu; exact hv
end
mutual
/-- The value, where it doesn't go by the name n (its rows alone, where not all of it has changed). -/
def scrub (n : Nat) (full : Bool) : AV → AV
  | .ref m => if (full && m == n) = true then .junk else .ref m
  | .ptr m i => if (full && m == n) = true then .junk else .ptr m i
  | .eptr m i k => if (full && m == n) = true then .junk else .eptr m i k
  | .elem m i => if (m == n) = true then .junk else .elem m i
  | .eelem m i j k => if (m == n) = true then .junk else .eelem m i j k
  | .cells l => .cells (scrubL n full l)
  | .tup l => .tup (scrubL n full l)
  | .ibox l i => .ibox (scrubL n full l) i
  | .fn f l => .fn f (scrubL n full l)
  | x => x
def scrubL (n : Nat) (full : Bool) : List AV → List AV
  | [] => []
  | x :: xs => scrub n full x :: scrubL n full xs
end
theorem scrubL_len (n : Nat) (full : Bool) : ∀ l : List AV, (scrubL n full l).length = l.length
  | [] => rfl
  | x :: xs => by simp [scrubL, scrubL_len n full xs]
theorem scrubL_get (n : Nat) (full : Bool) : ∀ (l : List AV) (i : Nat), (scrubL n full l)[i]? = (l[i]?).map (scrub n full)
  | [], i => by simp [scrubL]
  | x :: xs, 0 => by simp [scrubL]
  | x :: xs, i + 1 => by simp [scrubL, scrubL_get n full xs i]

/-- What is read stays as it is. -/
structure Keep (ok ok' : Nat → Prop) (w w' : World) (N N' : Nat) (val val' : Nat → Bd) (n : Nat) (full : Bool) : Prop where
  size : w.heap.size ≤ w'.heap.size
  ok : ∀ b, ok b → b < w.heap.size → ok' b ∧ w'.heap[b]? = w.heap[b]?
  le : N ≤ N'
  hv : ∀ m, m < N → (full && m == n) = false → (val' m).v = (val m).v
  hh : ∀ m, m < N → (m == n) = false → (val' m).hs = (val m).hs
section
variable {ok ok' : Nat → Prop} {w w' : World} {N N' : Nat} {val val' : Nat → Bd} {n : Nat} {full : Bool}
theorem PRel.keepM (K : Keep ok ok' w w' N N' val val' n full) {t : Ty} {x : t.den} {v : Value} (h : PRel ok w t x v) : PRel ok' w' t x v := by
  obtain ⟨b, o, cs, h1, h2, h3, h4, h5⟩ := h
  obtain ⟨k1, k2⟩ := K.ok b h2 h3
  exact ⟨b, o, cs, h1, k1, Nat.lt_of_lt_of_le h3 K.size, h4.mono K.size K.ok, fun j u hu => (World.cell?_of_block (a := ⟨b, o + j, none⟩) k2).trans (h5 j u hu)⟩
mutual
theorem VRel.scrub (K : Keep ok ok' w w' N N' val val' n full) : ∀ {x : AV} {v : Value}, VRel ok w N val x v → VRel ok' w' N' val' (scrub n full x) v
  | .int x, v, h => by simpa [VRel, M.scrub] using h
  | .lit x, v, h => by simpa [VRel, M.scrub] using h
  | .bool x, v, h => by simpa [VRel, M.scrub] using h
  | .str x, v, h => by simpa [VRel, M.scrub] using h
  | .u8 x, v, h => by simpa [VRel, M.scrub] using h
  | .u64 x, v, h => by simpa [VRel, M.scrub] using h
  | .sl t l, v, h => by simp only [VRel, M.scrub] at h ⊢; exact Rep.mono K.size K.ok h
  | .agg t x, v, h => by simp only [VRel, M.scrub] at h ⊢; obtain ⟨cs, h1, h2⟩ := h; exact ⟨cs, h1, h2.mono K.size K.ok⟩
  | .cells l, v, h => by simp only [VRel, M.scrub] at h ⊢; obtain ⟨cs, h1, h2, h3⟩ := h; exact ⟨cs, h1, VRelL.scrub K h2, h3⟩
  | .tup l, v, h => by simp only [VRel, M.scrub] at h ⊢; obtain ⟨cs, h1, h2⟩ := h; exact ⟨cs, h1, VRelL.scrub K h2⟩
  | .fn f l, v, h => by simp only [VRel, M.scrub] at h ⊢; obtain ⟨cs, h1, h2⟩ := h; exact ⟨cs, h1, VRelL.scrub K h2⟩
  | .iptr t x, v, h => by simp only [VRel, M.scrub] at h ⊢; exact PRel.keepM K h
  | .ibox l i, v, h => by
    simp only [VRel, M.scrub] at h ⊢
    obtain ⟨b, us, h1, h2, h3, h4, h5, h6⟩ := h
    obtain ⟨k1, k2⟩ := K.ok b h2 h3
    exact ⟨b, us, h1, k1, Nat.lt_of_lt_of_le h3 K.size, fun j u hu => (World.cell?_of_block (a := ⟨b, j, none⟩) k2).trans (h4 j u hu), VRelL.scrub K h5, h6⟩
  | .nilsl, v, h => by simpa [VRel, M.scrub] using h
  | .undef, v, h => by simpa [VRel, M.scrub] using h
  | .junk, v, h => by simp [VRel, M.scrub]
  | .ref m, v, h => by
    simp only [VRel, M.scrub] at h ⊢
    cases hc : (full && m == n) with
    | true => simp [VRel]
    | false => simp only [Bool.false_eq_true, ↓reduceIte, VRel]; exact ⟨Nat.lt_of_lt_of_le h.1 K.le, by rw [K.hv m h.1 hc]; exact h.2⟩
  | .ptr m i, v, h => by
    simp only [VRel, M.scrub] at h ⊢
    cases hc : (full && m == n) with
    | true => simp [VRel]
    | false => simp only [Bool.false_eq_true, ↓reduceIte, VRel]; obtain ⟨h0, g, h1, h2⟩ := h; exact ⟨Nat.lt_of_lt_of_le h0 K.le, g, by rw [K.hv m h0 hc]; exact h1, h2⟩
  | .eptr m i k, v, h => by
    simp only [VRel, M.scrub] at h ⊢
    cases hc : (full && m == n) with
    | true => simp [VRel]
    | false => simp only [Bool.false_eq_true, ↓reduceIte, VRel]; obtain ⟨h0, g, l, c, h1, h2⟩ := h; exact ⟨Nat.lt_of_lt_of_le h0 K.le, g, l, c, by rw [K.hv m h0 hc]; exact h1, h2⟩
  | .elem m i, v, h => by
    simp only [VRel, M.scrub] at h ⊢
    cases hc : (m == n) with
    | true => simp [VRel]
    | false => simp only [Bool.false_eq_true, ↓reduceIte, VRel]; exact ⟨Nat.lt_of_lt_of_le h.1 K.le, h.2.1, by rw [K.hh m h.1 hc]; exact h.2.2⟩
  | .eelem m i j k, v, h => by
    simp only [VRel, M.scrub] at h ⊢
    cases hc : (m == n) with
    | true => simp [VRel]
    | false => simp only [Bool.false_eq_true, ↓reduceIte, VRel]; obtain ⟨h0, h00, g, l, c, h1, h2⟩ := h; exact ⟨Nat.lt_of_lt_of_le h0 K.le, h00, g, l, c, by rw [K.hh m h0 hc]; exact h1, h2⟩
theorem VRelL.scrub (K : Keep ok ok' w w' N N' val val' n full) : ∀ {xs : List AV} {vs : List Value}, VRelL ok w N val xs vs → VRelL ok' w' N' val' (scrubL n full xs) vs
  | [], [], _ => by simp [VRelL, scrubL]
  | [], _ :: _, h => by simp [VRelL] at h
  | _ :: _, [], h => by simp [VRelL] at h
  | x :: xs, v :: vs, h => by simp only [VRelL, scrubL] at h ⊢; exact ⟨VRel.scrub K h.1, VRelL.scrub K h.2⟩
end
/-- What is read stays as it is, and no name has changed. -/
structure Keep0 (ok ok' : Nat → Prop) (w w' : World) (N N' : Nat) (val val' : Nat → Bd) : Prop where
  size : w.heap.size ≤ w'.heap.size
  ok : ∀ b, ok b → b < w.heap.size → ok' b ∧ w'.heap[b]? = w.heap[b]?
  le : N ≤ N'
  hv : ∀ m, m < N → (val' m).v = (val m).v
  hh : ∀ m, m < N → (val' m).hs = (val m).hs
theorem PRel.keep0 (K : Keep0 ok ok' w w' N N' val val') {t : Ty} {x : t.den} {v : Value} (h : PRel ok w t x v) : PRel ok' w' t x v := by
  obtain ⟨b, o, cs, h1, h2, h3, h4, h5⟩ := h
  obtain ⟨k1, k2⟩ := K.ok b h2 h3
  exact ⟨b, o, cs, h1, k1, Nat.lt_of_lt_of_le h3 K.size, h4.mono K.size K.ok, fun j u hu => (World.cell?_of_block (a := ⟨b, o + j, none⟩) k2).trans (h5 j u hu)⟩
mutual
theorem VRel.keep (K : Keep0 ok ok' w w' N N' val val') : ∀ {x : AV} {v : Value}, VRel ok w N val x v → VRel ok' w' N' val' x v
  | .int x, v, h => by simpa [VRel] using h
  | .lit x, v, h => by simpa [VRel] using h
  | .bool x, v, h => by simpa [VRel] using h
  | .str x, v, h => by simpa [VRel] using h
  | .u8 x, v, h => by simpa [VRel] using h
  | .u64 x, v, h => by simpa [VRel] using h
  | .sl t l, v, h => by simp only [VRel] at h ⊢; exact Rep.mono K.size K.ok h
  | .agg t x, v, h => by simp only [VRel] at h ⊢; obtain ⟨cs, h1, h2⟩ := h; exact ⟨cs, h1, h2.mono K.size K.ok⟩
  | .cells l, v, h => by simp only [VRel] at h ⊢; obtain ⟨cs, h1, h2, h3⟩ := h; exact ⟨cs, h1, VRelL.keep K h2, h3⟩
  | .tup l, v, h => by simp only [VRel] at h ⊢; obtain ⟨cs, h1, h2⟩ := h; exact ⟨cs, h1, VRelL.keep K h2⟩
  | .fn f l, v, h => by simp only [VRel] at h ⊢; obtain ⟨cs, h1, h2⟩ := h; exact ⟨cs, h1, VRelL.keep K h2⟩
  | .iptr t x, v, h => by simp only [VRel] at h ⊢; exact PRel.keep0 K h
  | .ibox l i, v, h => by
    simp only [VRel] at h ⊢
    obtain ⟨b, us, h1, h2, h3, h4, h5, h6⟩ := h
    obtain ⟨k1, k2⟩ := K.ok b h2 h3
    exact ⟨b, us, h1, k1, Nat.lt_of_lt_of_le h3 K.size, fun j u hu => (World.cell?_of_block (a := ⟨b, j, none⟩) k2).trans (h4 j u hu), VRelL.keep K h5, h6⟩
  | .nilsl, v, h => by simpa [VRel] using h
  | .undef, v, h => by simpa [VRel] using h
  | .junk, v, h => by simp [VRel]
  | .ref m, v, h => by simp only [VRel] at h ⊢; exact ⟨Nat.lt_of_lt_of_le h.1 K.le, by rw [K.hv m h.1]; exact h.2⟩
  | .ptr m i, v, h => by simp only [VRel] at h ⊢; obtain ⟨h0, g, h1, h2⟩ := h; exact ⟨Nat.lt_of_lt_of_le h0 K.le, g, by rw [K.hv m h0]; exact h1, h2⟩
  | .eptr m i k, v, h => by simp only [VRel] at h ⊢; obtain ⟨h0, g, l, c, h1, h2⟩ := h; exact ⟨Nat.lt_of_lt_of_le h0 K.le, g, l, c, by rw [K.hv m h0]; exact h1, h2⟩
  | .elem m i, v, h => by simp only [VRel] at h ⊢; exact ⟨Nat.lt_of_lt_of_le h.1 K.le, h.2.1, by rw [K.hh m h.1]; exact h.2.2⟩
  | .eelem m i j k, v, h => by simp only [VRel] at h ⊢; obtain ⟨h0, h00, g, l, c, h1, h2⟩ := h; exact ⟨Nat.lt_of_lt_of_le h0 K.le, h00, g, l, c, by rw [K.hh m h0]; exact h1, h2⟩
theorem VRelL.keep (K : Keep0 ok ok' w w' N N' val val') : ∀ {xs : List AV} {vs : List Value}, VRelL ok w N val xs vs → VRelL ok' w' N' val' xs vs
  | [], [], _ => by simp [VRelL]
  | [], _ :: _, h => by simp [VRelL] at h
  | _ :: _, [], h => by simp [VRelL] at h
  | x :: xs, v :: vs, h => by simp only [VRelL] at h ⊢; exact ⟨VRel.keep K h.1, VRelL.keep K h.2⟩
end
end

def okF (H : Hp) (val : Nat → Bd) (b : Nat) : Prop := ∀ n B, H[n]? = some (some B) → b ∉ (val n).F
/-- What lies in the memory of a block. -/
def BRel (ok : Nat → Prop) (w : World) (N : Nat) (val : Nat → Bd) (d : Bd) : Blk → Prop
  | .row e t l => ∃ xs, w.ownsRow 0 e t.n d.v (l ()).length xs ∧ RepL ok w t (l ()) xs ∧ d.F = (ownB d.v).toList
  | .rows e e2 t l => w.ownsRow 0 e 1 d.v (l ()).length d.hs ∧ (∀ (i : Nat) (y : List t.den), (l ())[i]? = some y → ∃ h xs, d.hs[i]? = some h ∧ w.ownsRow 0 e2 t.n h y.length xs ∧ RepL ok w t y xs) ∧
      (∀ g, g ∈ d.F ↔ ownB d.v = some g ∨ ∃ h ∈ d.hs, ownB h = some g) ∧
      (∀ (i j : Nat) (h h' : Value) (g : Nat), d.hs[i]? = some h → d.hs[j]? = some h' → ownB h = some g → ownB h' = some g → i = j) ∧ (∀ h ∈ d.hs, ∀ g, ownB h = some g → ownB d.v ≠ some g)
  | .rowsH e e2 t l k => w.ownsRow 0 e 1 d.v (l ()).length d.hs ∧ (∀ (i : Nat) (y : List t.den), (l ())[i]? = some y → i ≠ (k ()).toNat → ∃ h xs, d.hs[i]? = some h ∧ w.ownsRow 0 e2 t.n h y.length xs ∧ RepL ok w t y xs) ∧
      (∀ g, g ∈ d.F ↔ ownB d.v = some g ∨ ∃ (i : Nat) (h : Value), i ≠ (k ()).toNat ∧ d.hs[i]? = some h ∧ ownB h = some g) ∧
      (∀ (i j : Nat) (h h' : Value) (g : Nat), i ≠ (k ()).toNat → j ≠ (k ()).toNat → d.hs[i]? = some h → d.hs[j]? = some h' → ownB h = some g → ownB h' = some g → i = j) ∧ (∀ (i : Nat) (h : Value), i ≠ (k ()).toNat → d.hs[i]? = some h → ∀ g, ownB h = some g → ownB d.v ≠ some g)
  | .box e cs => ∃ g cur, d.v = .pointer (some ⟨g, 0, none⟩) ∧ w.heap[g]? = some (.cells cur e (0, 0)) ∧ VRelL ok w N val cs cur.toList ∧ (∀ u ∈ cur.toList, u.oneCell' = true) ∧ d.F = [g]
/-- The memory: what its blocks hold, where they lie, and that no two share one. -/
structure HRel (w : World) (val : Nat → Bd) (H : Hp) : Prop where
  blk : ∀ n B, H[n]? = some (some B) → BRel (okF H val) w H.length val (val n) B
  lt : ∀ n B, H[n]? = some (some B) → ∀ g ∈ (val n).F, g < w.heap.size
  apart : ∀ n m B C, n ≠ m → H[n]? = some (some B) → H[m]? = some (some C) → ∀ g ∈ (val n).F, g ∉ (val m).F
structure Frame0 (w0 : World) (B : Nat → Prop) (w : World) : Prop where
  os : w.os = w0.os
  tape : w.tape = w0.tape
  output : w.output = w0.output
  size : w0.heap.size ≤ w.heap.size
  same : ∀ b, b < w0.heap.size → ¬ B b → w.heap[b]? = w0.heap[b]?
structure Rl (w0 : World) (B : Nat → Prop) (hd : Nat → Value) (S : AS) (a : Act) (w : World) (val : Nat → Bd) : Prop where
  fr : Frame0 w0 B w
  len : a.tmps.size = S.tm.length
  defers : a.defers = []
  tmps : ∀ t, VRel (okF S.H val) w S.H.length val (S.tm.getD t .undef) (a.tmps.getD t undef)
  heap : HRel w val S.H
  own : ∀ n b, S.H[n]? = some (some b) → ∀ g ∈ (val n).F, w0.heap.size ≤ g ∨ B g
  kept : ∀ n, n < S.k → (val n).v = hd n
  kle : S.k ≤ S.H.length

theorem Frame0.refl (w : World) (B : Nat → Prop) : Frame0 w B w := ⟨rfl, rfl, rfl, Nat.le_refl _, fun _ _ _ => rfl⟩
theorem Frame0.trans {w0 w w' : World} {B : Nat → Prop} (h : Frame0 w0 B w) (h' : Below w.heap.size w w') : Frame0 w0 B w' :=
  ⟨h'.os.trans h.os, h'.tape.trans h.tape, h'.output.trans h.output, Nat.le_trans h.size h'.size, fun b hb hB => (h'.block b (Nat.lt_of_lt_of_le hb h.size)).trans (h.same b hb hB)⟩
theorem ownsRow_keep {w w' : World} {base : Nat} {e : TypeId} {k : Nat} {v : Value} {n : Nat} {xs : List Value} (h : w.ownsRow base e k v n xs)
    (hh : ∀ g, g ∈ (ownB v).toList → w'.heap[g]? = w.heap[g]?) : w'.ownsRow base e k v n xs :=
  ownsRow_heap h fun g hg => hh g (by rw [hg]; simp)
theorem repL_keep {ok ok' : Nat → Prop} {w w' : World} (hs : w.heap.size ≤ w'.heap.size) (hk : ∀ b, ok b → b < w.heap.size → ok' b ∧ w'.heap[b]? = w.heap[b]?) {t : Ty} {l : List t.den} {xs : List Value} (h : RepL ok w t l xs) : RepL ok' w' t l xs :=
  ⟨h.1, fun i y hy => (h.2 i y hy).mono hs hk⟩
theorem BRel.keep {ok ok' : Nat → Prop} {w w' : World} {N N' : Nat} {val val' : Nat → Bd} (K : Keep0 ok ok' w w' N N' val val') {d : Bd} {B : Blk}
    (hh : ∀ g ∈ d.F, w'.heap[g]? = w.heap[g]?) (h : BRel ok w N val d B) : BRel ok' w' N' val' d B := by
  cases B with
  | row e t l =>
    obtain ⟨xs, h1, h2, h3⟩ := h
    exact ⟨xs, ownsRow_keep h1 (fun g hg => hh g (by rw [h3]; exact hg)), repL_keep K.size K.ok h2, h3⟩
  | rows e e2 t l =>
    obtain ⟨h1, h2, h3, h4⟩ := h
    refine ⟨ownsRow_keep h1 (fun g hg => hh g ((h3 g).2 (.inl (by simpa using hg)))), fun i y hy => ?_, h3, h4⟩
    obtain ⟨h, xs, k1, k2, k3⟩ := h2 i y hy
    exact ⟨h, xs, k1, ownsRow_keep k2 (fun g hg => hh g ((h3 g).2 (.inr ⟨h, List.mem_of_getElem? k1, by simpa using hg⟩))), repL_keep K.size K.ok k3⟩
  | rowsH e e2 t l k =>
    obtain ⟨h1, h2, h3, h4⟩ := h
    refine ⟨ownsRow_keep h1 (fun g hg => hh g ((h3 g).2 (.inl (by simpa using hg)))), fun i y hy hi => ?_, h3, h4⟩
    obtain ⟨h, xs, k1, k2, k3⟩ := h2 i y hy hi
    exact ⟨h, xs, k1, ownsRow_keep k2 (fun g hg => hh g ((h3 g).2 (.inr ⟨i, h, hi, k1, by simpa using hg⟩))), repL_keep K.size K.ok k3⟩
  | box e cs =>
    obtain ⟨g, cur, h1, h2, h3, h4, h5⟩ := h
    exact ⟨g, cur, h1, by rw [hh g (by rw [h5]; simp)]; exact h2, h3.keep K, h4, h5⟩
theorem HRel.keep {w w' : World} {val : Nat → Bd} {H : Hp} (h : HRel w val H) (hs : w.heap.size ≤ w'.heap.size) (hb : ∀ b, b < w.heap.size → w'.heap[b]? = w.heap[b]?) : HRel w' val H :=
  ⟨fun n B hB => (h.blk n B hB).keep ⟨hs, fun b hk hlt => ⟨hk, hb b hlt⟩, Nat.le_refl _, fun _ _ => rfl, fun _ _ => rfl⟩ fun g hg => hb g (h.lt n B hB g hg),
    fun n B hB g hg => Nat.lt_of_lt_of_le (h.lt n B hB g hg) hs, h.apart⟩
/-- The world has grown, old blocks are as they were. -/
theorem Rl.grow {w0 w w' : World} {B : Nat → Prop} {hd : Nat → Value} {S : AS} {a : Act} {val : Nat → Bd} (h : Rl w0 B hd S a w val) (hb : Below w.heap.size w w') : Rl w0 B hd S a w' val := by
  have K : Keep0 (okF S.H val) (okF S.H val) w w' S.H.length S.H.length val val := ⟨hb.size, fun b hk hlt => ⟨hk, hb.block b hlt⟩, Nat.le_refl _, fun _ _ => rfl, fun _ _ => rfl⟩
  exact ⟨h.fr.trans hb, h.len, h.defers, fun t => (h.tmps t).keep K, h.heap.keep hb.size hb.block, h.own, h.kept, h.kle⟩
def AS.put (S : AS) (d : Option Tmp) (v : AV) : AS :=
  match d with
  | some t => { S with tm := S.tm.set t v }
  | none => S
theorem Rl.put {w0 w : World} {B : Nat → Prop} {hd : Nat → Value} {S : AS} {a : Act} {val : Nat → Bd} (h : Rl w0 B hd S a w val) (d : Option Tmp) {x : AV} {v : Value} (hv : VRel (okF S.H val) w S.H.length val x v) : Rl w0 B hd (S.put d x) (a.put d v) w val := by
  cases d with
  | none => exact h
  | some d =>
    refine ⟨h.fr, by simp [Act.put, AS.put, h.len], h.defers, fun t => ?_, h.heap, h.own, h.kept, h.kle⟩
    have := h.tmps t
    simp only [Act.put, AS.put, List.getD_eq_getElem?_getD, Array.getD_eq_getD_getElem?] at this ⊢
    by_cases hd : d = t
    · subst hd
      by_cases hlt : d < S.tm.length
      · rw [List.getElem?_set_self hlt, Array.getElem?_setIfInBounds_self_of_lt (by rw [h.len]; exact hlt)]
        exact hv
      · have e1 : (S.tm.set d x)[d]? = none := List.getElem?_eq_none (by rw [List.length_set]; exact Nat.le_of_not_lt hlt)
        have e2 : (a.tmps.setIfInBounds d v)[d]? = none := Array.getElem?_eq_none (by rw [Array.size_setIfInBounds, h.len]; exact Nat.le_of_not_lt hlt)
        rw [e1, e2]
        simp [VRel]; rfl
    · rw [List.getElem?_set_ne hd, Array.getElem?_setIfInBounds_ne hd]
      exact this
end Go.Proofs.Ytbkdmnohpjihgaa.M

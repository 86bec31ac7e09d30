/- What is known of a value, weakened; what a function is known to answer. -/
import Derived.Test.YtbkdmnohpjihgaaMm
namespace Go.Proofs.Ytbkdmnohpjihgaa.M
open Go.RowKit Abs
set_option linter.unusedVariables false
set_option linter.unusedSimpArgs false

structure EqU {α : Type} (x y : Unit → α) : Prop where
  out : x () = y ()
def idle (n m N : Nat) : Prop := if (n == m && m.blt N) = true then True else False
mutual
/-- The second says no more than the first, and goes by names below N. -/
def AVle (N : Nat) : AV → AV → Prop
  | _, .junk => True
  | .int x, .int y => EqU x y
  | .lit a, .lit b => EqU (fun _ => a) (fun _ => b)
  | .lit a, .bool b => EqU (fun _ => a) b
  | .bool a, .bool b => EqU a b
  | .bool a, .lit b => EqU a fun _ => b
  | .str x, .str y => EqU x y
  | .u8 x, .u8 y => EqU x y
  | .u64 x, .u64 y => EqU x y
  | .sl t l, .sl t' l' => (match castT (.sl t) (.sl t') l with | some m => EqU m l' | none => False)
  | .nilsl, .sl t l => EqU l fun _ => []
  | .agg t x, .agg t' x' => (match castT t t' x with | some m => EqU m x' | none => False)
  | .iptr t x, .iptr t' x' => (match castT t t' x with | some m => EqU m x' | none => False)
  | .cells l, .cells l' => AVleL N l l'
  | .tup l, .tup l' => AVleL N l l'
  | .ibox l i, .ibox l' i' => i = i' ∧ AVleL N l l'
  | .fn f l, .fn f' l' => f = f' ∧ AVleL N l l'
  | .ref n, .ref m => idle n m N
  | .ptr n i, .ptr m j => i = j ∧ idle n m N
  | .eptr n i k, .eptr m j k' => k = k' ∧ EqU i j ∧ idle n m N
  | .elem n i, .elem m j => EqU i j ∧ idle n m N
  | .eelem n i j k, .eelem m i' j' k' => k = k' ∧ EqU i i' ∧ EqU j j' ∧ idle n m N
  | .nilsl, .nilsl => True
  | .undef, .undef => True
  | _, _ => False
def AVleL (N : Nat) : List AV → List AV → Prop
  | [], [] => True
  | x :: xs, y :: ys => AVle N x y ∧ AVleL N xs ys
  | _, _ => False
end
theorem idle_spec {n m N : Nat} (h : idle n m N) : n = m ∧ m < N := by
  unfold idle at h
  cases hb : (n == m && m.blt N) with
  | false => rw [hb] at h; exact h.elim
  | true =>
    simp only [Bool.and_eq_true, beq_iff_eq] at hb
    exact ⟨hb.1, by have := hb.2; rwa [Nat.blt_eq] at this⟩
section
variable {ok : Nat → Prop} {w : World} {N N' : Nat} {val : Nat → Bd}
theorem castT_cast {u t : Ty} {x : Unit → u.den} {y z : Unit → t.den} (h : castT u t x = some y) (e : EqU y z) {cs : List Value} (hr : Rep ok w u (x ()) cs) : Rep ok w t (z ()) cs := by
  have := (castT_rep (ok := ok) (w := w) h).2 cs hr
  rw [← e.out]; exact this
mutual
theorem VRel.le : ∀ {x y : AV} {v : Value}, AVle N' x y → VRel ok w N val x v → VRel ok w N' val y v := fun {x y v} h hx => by
  cases y with
  | junk => simp [VRel]
  | int y => cases x <;> simp only [AVle] at h; simp only [VRel] at hx ⊢; rw [hx, h.out]
  | lit y =>
    cases x <;> simp only [AVle] at h
    · simp only [VRel] at hx ⊢; rw [hx, h.out]
    · simp only [VRel] at hx ⊢; rw [hx, h.out]
  | bool y =>
    cases x <;> simp only [AVle] at h
    · simp only [VRel] at hx ⊢; rw [hx, ← h.out]
    · simp only [VRel] at hx ⊢; rw [hx, h.out]
  | str y => cases x <;> simp only [AVle] at h; simp only [VRel] at hx ⊢; rw [hx, h.out]
  | u8 y => cases x <;> simp only [AVle] at h; simp only [VRel] at hx ⊢; rw [hx, h.out]
  | u64 y => cases x <;> simp only [AVle] at h; simp only [VRel] at hx ⊢; rw [hx, h.out]
  | sl t l =>
    cases x <;> simp only [AVle] at h
    · split at h
      · rename_i m hm; simp only [VRel] at hx ⊢; exact castT_cast hm h hx
      · exact h.elim
    · simp only [VRel] at hx ⊢
      rw [h.out, hx]
      unfold Rep
      exact ⟨none, 0, rfl, Nat.le_refl _, by simp [maxLen], .inl rfl⟩
  | agg t d =>
    cases x <;> simp only [AVle] at h
    split at h
    · rename_i m hm; simp only [VRel] at hx ⊢; obtain ⟨cs, h1, h2⟩ := hx; exact ⟨cs, h1, castT_cast hm h h2⟩
    · exact h.elim
  | iptr t d =>
    cases x <;> simp only [AVle] at h
    split at h
    · rename_i m hm; simp only [VRel] at hx ⊢; obtain ⟨b, o, cs, h1, h2, h3, h4, h5⟩ := hx; exact ⟨b, o, cs, h1, h2, h3, castT_cast hm h h4, h5⟩
    · exact h.elim
  | cells l => cases x <;> simp only [AVle] at h; simp only [VRel] at hx ⊢; obtain ⟨cs, h1, h2, h3⟩ := hx; exact ⟨cs, h1, VRelL.le h h2, h3⟩
  | tup l => cases x <;> simp only [AVle] at h; simp only [VRel] at hx ⊢; obtain ⟨cs, h1, h2⟩ := hx; exact ⟨cs, h1, VRelL.le h h2⟩
  | ibox l i => cases x <;> simp only [AVle] at h; obtain ⟨rfl, h⟩ := h; simp only [VRel] at hx ⊢; obtain ⟨b, us, h1, h2, h3, h4, h5, h6⟩ := hx; exact ⟨b, us, h1, h2, h3, h4, VRelL.le h h5, h6⟩
  | fn f l => cases x <;> simp only [AVle] at h; obtain ⟨rfl, h⟩ := h; simp only [VRel] at hx ⊢; obtain ⟨cs, h1, h2⟩ := hx; exact ⟨cs, h1, VRelL.le h h2⟩
  | ref m => cases x <;> simp only [AVle] at h; obtain ⟨rfl, hlt⟩ := idle_spec h; simp only [VRel] at hx ⊢; exact ⟨hlt, hx.2⟩
  | ptr m i => cases x <;> simp only [AVle] at h; obtain ⟨rfl, h⟩ := h; obtain ⟨rfl, hlt⟩ := idle_spec h; simp only [VRel] at hx ⊢; exact ⟨hlt, hx.2⟩
  | eptr m i k => cases x <;> simp only [AVle] at h; obtain ⟨rfl, hi, h⟩ := h; obtain ⟨rfl, hlt⟩ := idle_spec h; simp only [VRel] at hx ⊢; rw [← hi.out]; exact ⟨hlt, hx.2⟩
  | elem m i => cases x <;> simp only [AVle] at h; obtain ⟨hi, h⟩ := h; obtain ⟨rfl, hlt⟩ := idle_spec h; simp only [VRel] at hx ⊢; rw [← hi.out]; exact ⟨hlt, hx.2⟩
  | eelem m i j k => cases x <;> simp only [AVle] at h; obtain ⟨rfl, hi, hj, h⟩ := h; obtain ⟨rfl, hlt⟩ := idle_spec h; simp only [VRel] at hx ⊢; rw [← hi.out, ← hj.out]; exact ⟨hlt, hx.2⟩
  | nilsl => cases x <;> simp only [AVle] at h; simp only [VRel] at hx ⊢; exact hx
  | undef => cases x <;> simp only [AVle] at h; simp only [VRel] at hx ⊢; exact hx
theorem VRelL.le : ∀ {xs ys : List AV} {vs : List Value}, AVleL N' xs ys → VRelL ok w N val xs vs → VRelL ok w N' val ys vs
  | [], [], [], _, _ => by simp [VRelL]
  | [], [], _ :: _, _, h => by simp [VRelL] at h
  | [], _ :: _, _, h, _ => by simp [AVleL] at h
  | _ :: _, [], _, h, _ => by simp [AVleL] at h
  | _ :: _, _ :: _, [], _, h => by simp [VRelL] at h
  | x :: xs, y :: ys, v :: vs, h, hx => by simp only [AVleL, VRelL] at h hx ⊢; exact ⟨VRel.le h.1 hx.1, VRelL.le h.2 hx.2⟩
end
theorem AVleL.len : ∀ {xs ys : List AV}, AVleL N' xs ys → xs.length = ys.length
  | [], [], _ => rfl
  | [], _ :: _, h => by simp [AVleL] at h
  | _ :: _, [], h => by simp [AVleL] at h
  | x :: xs, y :: ys, h => by simp only [AVleL] at h; simp [AVleL.len h.2]
theorem AVleL.get : ∀ {xs ys : List AV} (t : Nat), AVleL N' xs ys → AVle N' (xs.getD t .undef) (ys.getD t .undef)
  | [], [], t, _ => by simp [AVle]
  | [], _ :: _, _, h => by simp [AVleL] at h
  | _ :: _, [], _, h => by simp [AVleL] at h
  | x :: xs, y :: ys, 0, h => by simp only [AVleL] at h; simpa using h.1
  | x :: xs, y :: ys, t + 1, h => by simp only [AVleL] at h; simpa using AVleL.get t h.2
end
def BLe (N : Nat) : Blk → Blk → Prop
  | .row e t l, .row e' t' l' => e = e' ∧ (match castT (.sl t) (.sl t') l with | some m => EqU m l' | none => False)
  | .rows e e2 t l, .rows e' e2' t' l' => e = e' ∧ e2 = e2' ∧ (match castT (.sl (.sl t)) (.sl (.sl t')) l with | some m => EqU m l' | none => False)
  | .box e cs, .box e' cs' => e = e' ∧ AVleL N cs cs'
  | _, _ => False
def HLe (N : Nat) : Hp → Hp → Prop
  | _, [] => True
  | [], _ :: _ => False
  | x :: r, y :: s => (match x, y with | _, none => True | some b, some c => BLe N b c | none, some _ => False) ∧ HLe N r s
theorem BRel.le {ok : Nat → Prop} {w : World} {N N' : Nat} {val : Nat → Bd} {d : Bd} {b c : Blk} (h : BLe N' b c) (hb : BRel ok w N val d b) : BRel ok w N' val d c := by
  cases b <;> cases c <;> simp only [BLe] at h
  · obtain ⟨rfl, h⟩ := h
    split at h
    · rename_i m hm
      obtain ⟨rfl, rfl⟩ := castSl hm
      obtain ⟨xs, h1, h2, h3⟩ := hb
      have e := h.out
      simp only at e
      exact ⟨xs, by rw [← e]; exact h1, by rw [← e]; exact h2, h3⟩
    · exact h.elim
  · obtain ⟨rfl, rfl, h⟩ := h
    split at h
    · rename_i m hm
      obtain ⟨he, rfl⟩ := castSl hm
      cases he
      obtain ⟨h1, h2, h3⟩ := hb
      have e := h.out
      simp only at e
      exact ⟨by rw [← e]; exact h1, by rw [← e]; exact h2, h3⟩
    · exact h.elim
  · obtain ⟨rfl, h⟩ := h
    obtain ⟨g, cur, h1, h2, h3, h4, h5⟩ := hb
    exact ⟨g, cur, h1, h2, h3.le h, h4, h5⟩
theorem HLe.get {N : Nat} : ∀ {H H' : Hp} {n : Nat} {c : Blk}, HLe N H H' → H'[n]? = some (some c) → ∃ b, H[n]? = some (some b) ∧ BLe N b c
  | _, [], n, c, _, h => by simp at h
  | [], _ :: _, n, c, h, _ => by simp [HLe] at h
  | x :: r, y :: s, 0, c, h, hc => by
    simp at hc
    subst hc
    simp only [HLe] at h
    cases x with
    | none => exact h.1.elim
    | some b => exact ⟨b, rfl, h.1⟩
  | x :: r, y :: s, n + 1, c, h, hc => by simp only [HLe] at h; simpa using HLe.get h.2 (by simpa using hc)
/-- The second state says no more than the first. -/
structure Weak (S S' : AS) : Prop where
  tm : AVleL S'.H.length S.tm S'.tm
  H : HLe S'.H.length S.H S'.H
  k : (S.k == S'.k && S'.k.ble S'.H.length) = true
theorem Rl.weak {w0 w : World} {B : Nat → Prop} {hd : Nat → Value} {S S' : AS} {a : Act} {val : Nat → Bd} (hR : Rl w0 B hd S a w val) (hw : Weak S S') : Rl w0 B hd S' a w val := by
  have hk : ∀ b, okF S.H val b → okF S'.H val b := fun b hb n c hc => by
    obtain ⟨b', hb', _⟩ := hw.H.get hc
    exact hb n b' hb'
  have K : Keep0 (okF S.H val) (okF S'.H val) w w S.H.length S.H.length val val := ⟨Nat.le_refl _, fun b hb _ => ⟨hk b hb, rfl⟩, Nat.le_refl _, fun _ _ => rfl, fun _ _ => rfl⟩
  have hkk := hw.k
  simp only [Bool.and_eq_true, beq_iff_eq] at hkk
  obtain ⟨k1, k2⟩ := hkk
  refine ⟨hR.fr, by rw [hR.len, hw.tm.len], hR.defers, fun t => ((hR.tmps t).keep K).le (hw.tm.get t), ⟨fun n c hc => ?_, fun n c hc => ?_, fun n m c d hne hc hdd => ?_⟩, fun n c hc => ?_, by rw [← k1]; exact hR.kept, Nat.le_of_ble_eq_true k2⟩
  · obtain ⟨b, hb, hle⟩ := hw.H.get hc
    exact ((hR.heap.blk n b hb).keep K (fun _ _ => rfl)).le hle
  · obtain ⟨b, hb, _⟩ := hw.H.get hc
    exact hR.heap.lt n b hb
  · obtain ⟨b, hb, _⟩ := hw.H.get hc
    obtain ⟨b', hb', _⟩ := hw.H.get hdd
    exact hR.heap.apart n m b b' hne hb hb'
  · obtain ⟨b, hb, _⟩ := hw.H.get hc
    exact hR.own n b hb

/-- Names changed. -/
def nth (ρ : List Nat) (n : Nat) : Nat := ρ.getD n 0
mutual
def ren (ρ : List Nat) : AV → AV
  | .ref n => .ref (nth ρ n)
  | .ptr n i => .ptr (nth ρ n) i
  | .eptr n i k => .eptr (nth ρ n) i k
  | .elem n i => .elem (nth ρ n) i
  | .eelem n i j k => .eelem (nth ρ n) i j k
  | .cells l => .cells (renL ρ l)
  | .tup l => .tup (renL ρ l)
  | .fn f l => .fn f (renL ρ l)
  | .ibox l i => .ibox (renL ρ l) i
  | x => x
def renL (ρ : List Nat) : List AV → List AV
  | [] => []
  | x :: xs => ren ρ x :: renL ρ xs
end
mutual
/-- The names are below this number. -/
def ltA (N : Nat) : AV → Bool
  | .ref n => n.blt N
  | .ptr n i => n.blt N
  | .eptr n i k => n.blt N
  | .elem n i => n.blt N
  | .eelem n i j k => n.blt N
  | .cells l => ltL N l
  | .tup l => ltL N l
  | .fn f l => ltL N l
  | .ibox l i => ltL N l
  | x => true
def ltL (N : Nat) : List AV → Bool
  | [] => true
  | x :: xs => ltA N x && ltL N xs
end
mutual
/-- Nothing of it lies in memory but what goes by a name. -/
def flatA : AV → Bool
  | .sl _ _ => false
  | .agg t _ => t.flat
  | .iptr _ _ => false
  | .ibox _ _ => false
  | .cells l => flatL l
  | .tup l => flatL l
  | .fn f l => flatL l
  | x => true
def flatL : List AV → Bool
  | [] => true
  | x :: xs => flatA x && flatL xs
end
section
variable {ok ok' : Nat → Prop} {w : World} {N N' : Nat} {val val' : Nat → Bd} {ρ : List Nat}
mutual
theorem VRel.ren (hv : ∀ n, n < N → nth ρ n < N' ∧ (val' (nth ρ n)).v = (val n).v ∧ (val' (nth ρ n)).hs = (val n).hs) : ∀ {x : AV} {v : Value}, VRel ok w N val x v → VRel ok w N' val' (ren ρ x) v := fun {x v} h => by
  cases x <;> simp only [M.ren, VRel] at h ⊢
  case ref n => obtain ⟨h1, h2, h3⟩ := hv n h.1; exact ⟨h1, by rw [h2]; exact h.2⟩
  case ptr n i => obtain ⟨h1, h2, h3⟩ := hv n h.1; exact ⟨h1, by rw [h2]; exact h.2⟩
  case eptr n i k => obtain ⟨h1, h2, h3⟩ := hv n h.1; exact ⟨h1, by rw [h2]; exact h.2⟩
  case elem n i => obtain ⟨h1, h2, h3⟩ := hv n h.1; exact ⟨h1, by rw [h3]; exact h.2⟩
  case eelem n i j k => obtain ⟨h1, h2, h3⟩ := hv n h.1; exact ⟨h1, by rw [h3]; exact h.2⟩
  case cells l => obtain ⟨cs, h1, h2, h3⟩ := h; exact ⟨cs, h1, VRelL.ren hv h2, h3⟩
  case tup l => obtain ⟨cs, h1, h2⟩ := h; exact ⟨cs, h1, VRelL.ren hv h2⟩
  case fn f l => obtain ⟨cs, h1, h2⟩ := h; exact ⟨cs, h1, VRelL.ren hv h2⟩
  case ibox l i => obtain ⟨b, us, h1, h2, h3, h4, h5, h6⟩ := h; exact ⟨b, us, h1, h2, h3, h4, VRelL.ren hv h5, h6⟩
  all_goals exact h
theorem VRelL.ren (hv : ∀ n, n < N → nth ρ n < N' ∧ (val' (nth ρ n)).v = (val n).v ∧ (val' (nth ρ n)).hs = (val n).hs) : ∀ {xs : List AV} {vs : List Value}, VRelL ok w N val xs vs → VRelL ok w N' val' (renL ρ xs) vs
  | [], [], _ => by simp [VRelL, renL]
  | [], _ :: _, h => by simp [VRelL] at h
  | _ :: _, [], h => by simp [VRelL] at h
  | x :: xs, v :: vs, h => by simp only [VRelL, renL] at h ⊢; exact ⟨VRel.ren hv h.1, VRelL.ren hv h.2⟩
end
mutual
/-- Back from other names. -/
theorem VRel.unren (hv : ∀ n, n < N → (val' (nth ρ n)).v = (val n).v ∧ (val' (nth ρ n)).hs = (val n).hs) : ∀ {x : AV} {v : Value}, ltA N x = true → VRel ok w N' val' (ren ρ x) v → VRel ok w N val x v := fun {x v} hl h => by
  cases x <;> simp only [M.ren, VRel, ltA, Nat.blt_eq] at h hl ⊢
  case ref n => obtain ⟨h2, h3⟩ := hv n hl; exact ⟨hl, by rw [← h2]; exact h.2⟩
  case ptr n i => obtain ⟨h2, h3⟩ := hv n hl; exact ⟨hl, by rw [← h2]; exact h.2⟩
  case eptr n i k => obtain ⟨h2, h3⟩ := hv n hl; exact ⟨hl, by rw [← h2]; exact h.2⟩
  case elem n i => obtain ⟨h2, h3⟩ := hv n hl; exact ⟨hl, by rw [← h3]; exact h.2⟩
  case eelem n i j k => obtain ⟨h2, h3⟩ := hv n hl; exact ⟨hl, by rw [← h3]; exact h.2⟩
  case cells l => obtain ⟨cs, h1, h2, h3⟩ := h; exact ⟨cs, h1, VRelL.unren hv hl h2, h3⟩
  case tup l => obtain ⟨cs, h1, h2⟩ := h; exact ⟨cs, h1, VRelL.unren hv hl h2⟩
  case fn f l => obtain ⟨cs, h1, h2⟩ := h; exact ⟨cs, h1, VRelL.unren hv hl h2⟩
  case ibox l i => obtain ⟨b, us, h1, h2, h3, h4, h5, h6⟩ := h; exact ⟨b, us, h1, h2, h3, h4, VRelL.unren hv hl h5, h6⟩
  all_goals exact h
theorem VRelL.unren (hv : ∀ n, n < N → (val' (nth ρ n)).v = (val n).v ∧ (val' (nth ρ n)).hs = (val n).hs) : ∀ {xs : List AV} {vs : List Value}, ltL N xs = true → VRelL ok w N' val' (renL ρ xs) vs → VRelL ok w N val xs vs
  | [], [], _, _ => by simp [VRelL]
  | [], _ :: _, _, h => by simp [VRelL, renL] at h
  | _ :: _, [], _, h => by simp [VRelL, renL] at h
  | x :: xs, v :: vs, hl, h => by simp only [VRelL, renL, ltL, Bool.and_eq_true] at h hl ⊢; exact ⟨VRel.unren hv hl.1 h.1, VRelL.unren hv hl.2 h.2⟩
end
mutual
theorem VRel.flat : ∀ {x : AV} {v : Value}, flatA x = true → VRel ok w N val x v → VRel ok' w N val x v := fun {x v} hf h => by
  cases x <;> simp only [flatA, VRel] at h hf ⊢
  case cells l => obtain ⟨cs, h1, h2, h3⟩ := h; exact ⟨cs, h1, VRelL.flat hf h2, h3⟩
  case tup l => obtain ⟨cs, h1, h2⟩ := h; exact ⟨cs, h1, VRelL.flat hf h2⟩
  case fn f l => obtain ⟨cs, h1, h2⟩ := h; exact ⟨cs, h1, VRelL.flat hf h2⟩
  case agg t d => obtain ⟨cs, h1, h2⟩ := h; exact ⟨cs, h1, h2.flat hf⟩
  case sl t l => cases hf
  case iptr t l => cases hf
  case ibox t l => cases hf
  all_goals exact h
theorem VRelL.flat : ∀ {xs : List AV} {vs : List Value}, flatL xs = true → VRelL ok w N val xs vs → VRelL ok' w N val xs vs
  | [], [], _, _ => by simp [VRelL]
  | [], _ :: _, _, h => by simp [VRelL] at h
  | _ :: _, [], _, h => by simp [VRelL] at h
  | x :: xs, v :: vs, hf, h => by simp only [VRelL, flatL, Bool.and_eq_true] at h hf ⊢; exact ⟨VRel.flat hf.1 h.1, VRelL.flat hf.2 h.2⟩
end
end
end Go.Proofs.Ytbkdmnohpjihgaa.M

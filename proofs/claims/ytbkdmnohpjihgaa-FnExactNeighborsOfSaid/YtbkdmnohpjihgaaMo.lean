/- What a function is known to answer; a call, by what its function is known to answer. -/
import Derived.Test.YtbkdmnohpjihgaaMn
namespace Go.Proofs.Ytbkdmnohpjihgaa.M
open Go.RowKit Abs
set_option linter.unusedVariables false
set_option linter.unusedSimpArgs false

def renB (ρ : List Nat) : Blk → Blk
  | .box e cs => .box e (renL ρ cs)
  | b => b
def renO (ρ : List Nat) : Option Blk → Option Blk
  | some b => some (renB ρ b)
  | none => none
def ltB (N : Nat) : Blk → Bool
  | .box e cs => ltL N cs
  | b => true
def flatB : Blk → Bool
  | .box e cs => flatL cs
  | .row _ t _ => t.flat
  | .rows _ _ t _ => t.flat
  | .rowsH _ _ _ _ _ => false
structure HRelK (ok : Nat → Prop) (w : World) (N : Nat) (val : Nat → Bd) (H : Hp) : Prop where
  blk : ∀ n B, H[n]? = some (some B) → BRel ok w N val (val n) B
  lt : ∀ n B, H[n]? = some (some B) → ∀ g ∈ (val n).F, g < w.heap.size
  apart : ∀ n m B C, n ≠ m → H[n]? = some (some B) → H[m]? = some (some C) → ∀ g ∈ (val n).F, g ∉ (val m).F
def pBlk (H : Hp) (val : Nat → Bd) (b : Nat) : Prop := ∃ n B, H[n]? = some (some B) ∧ b ∈ (val n).F
def NoB (_ : Nat) : Prop := False
def ResV (w : World) (N : Nat) (val : Nat → Bd) : List AV → Value → Prop
  | [r], v => VRel NoB w N val r v
  | rs, v => ∃ vs : List Value, v = .tuple vs.toArray ∧ VRelL NoB w N val rs vs
structure SPost (pre : Hp) (val : Nat → Bd) (res : List AV) (post : Hp) (w : World) (v : Value) (w' : World) (val' : Nat → Bd) : Prop where
  fr : Frame0 w (pBlk pre val) w'
  heap : HRelK NoB w' post.length val' post
  own : ∀ n B, post[n]? = some (some B) → ∀ g ∈ (val' n).F, w.heap.size ≤ g ∨ pBlk pre val g
  head : ∀ n, n < pre.length → (val' n).v = (val n).v
  res : ResV w' post.length val' res v
/-- Called with such arguments in such a memory, in whatever world: the function returns with these results and this memory; all other memory that was there is as it was. -/
def Spec2 (P : Program) (f : FuncId) (args : List AV) (pre : Hp) (res : List AV) (post : Hp) : Prop :=
  enters P f = true ∧ pre.length ≤ post.length ∧ ∀ (w : World) (val : Nat → Bd) (vs : List Value), HRel w val pre → VRelL (okF pre val) w pre.length val args vs →
    Calls P f vs.toArray w (fun e w' => ∃ v val', e = .returned v ∧ SPost pre val res post w v w' val')

/-- A value as a datum: what it leads to is only looked at. -/
def viewA (H : Hp) : Nat → AV → AV
  | 0, _ => .junk
  | k + 1, x => (match x with
    | .ref n => (match H[n]? with
      | some (some (.row _ t l)) => .sl t l
      | some (some (.rows _ _ t l)) => .sl (.sl t) l
      | _ => .junk)
    | .elem n i => (match H[n]? with
      | some (some (.rows _ _ t l)) => .sl t fun _ => getR t (l ()) (i ())
      | _ => .junk)
    | .ptr n i => (match H[n]? with
      | some (some (.box _ cs)) => .ibox (cs.map (viewA H k)) i
      | _ => .junk)
    | .cells l => .cells (l.map (viewA H k))
    | .fn f l => .fn f (l.map (viewA H k))
    | .int x => .int x | .lit b => .lit b | .bool b => .bool b | .str s => .str s | .u8 x => .u8 x | .u64 x => .u64 x
    | .sl t l => .sl t l | .agg t x => .agg t x | .iptr t x => .iptr t x | .nilsl => .nilsl | .undef => .undef
    | _ => .junk)
def argV (T : Tab) (H : Hp) (t : TypeId) (x : AV) : AV :=
  match (tl T t).ty with
  | some tt => (match viewD H tt x with
    | some y => injT tt y
    | none => viewA H 4 x)
  | none => viewA H 4 x
def argVs (T : Tab) (H : Hp) : List TypeId → List AV → List AV
  | t :: ts, x :: xs => argV T H t x :: argVs T H ts xs
  | [], x :: xs => viewA H 4 x :: argVs T H [] xs
  | _, [] => []
def argsM (σ : List Nat) : List AV → List AV → List AV → Prop
  | [], [], [] => True
  | x :: xs, u :: us, y :: ys => (u = y ∨ (x = ren σ y ∧ ltA σ.length y = true)) ∧ argsM σ xs us ys
  | _, _, _ => False
def preM (H : Hp) (ρ : List Nat) : List Nat → Hp → Prop
  | [], [] => True
  | n :: σ, some b :: r => H[n]? = some (some (renB ρ b)) ∧ ltB ρ.length b = true ∧ preM H ρ σ r
  | _, _ => False
section
variable {P : Program} {T : Tab} {w0 w w1 : World} {B : Nat → Prop} {hd : Nat → Value} {S : AS} {a : Act} {val : Nat → Bd}
theorem row_view {ok ok2 : Nat → Prop} {N : Nat} {d : Bd} {e : TypeId} {u : Ty} {l : Unit → List u.den} (h : BRel ok w N val d (.row e u l)) (h2 : ∀ g ∈ d.F, ok2 g) (hk : ∀ b, ok b → ok2 b) : Rep ok2 w (.sl u) (l ()) [d.v] := by
  obtain ⟨xs, k1, k2, k3⟩ := h
  exact row_rep k1 ⟨k2.1, fun i z hz => (k2.2 i z hz).weak hk⟩ fun g hg => h2 g (by rw [k3, hg]; simp)
theorem elem_view {ok ok2 : Nat → Prop} {N : Nat} {d : Bd} {e e2 : TypeId} {u : Ty} {l : Unit → List (List u.den)} (h : BRel ok w N val d (.rows e e2 u l)) (h2 : ∀ g ∈ d.F, ok2 g) (hk : ∀ b, ok b → ok2 b) {i : Nat} {y : List u.den} (hi : (l ())[i]? = some y) :
    ∃ v, d.hs[i]? = some v ∧ Rep ok2 w (.sl u) y [v] := by
  obtain ⟨k1, k2, k3, _⟩ := h
  obtain ⟨v, xs, m1, m2, m3⟩ := k2 i y hi
  exact ⟨v, m1, row_rep m2 ⟨m3.1, fun i z hz => (m3.2 i z hz).weak hk⟩ fun g hg => h2 g ((k3 g).2 (.inr ⟨v, List.mem_of_getElem? m1, hg⟩))⟩
theorem rows_view {ok ok2 : Nat → Prop} {N : Nat} {d : Bd} {e e2 : TypeId} {u : Ty} {l : Unit → List (List u.den)} (h : BRel ok w N val d (.rows e e2 u l)) (h2 : ∀ g ∈ d.F, ok2 g) (hk : ∀ b, ok b → ok2 b) : Rep ok2 w (.sl (.sl u)) (l ()) [d.v] := by
  have h' := h
  obtain ⟨k1, k2, k3, k4⟩ := h
  have hhs : d.hs.length = (l ()).length := by have := k1.1; simpa using this
  refine row_rep (t := .sl u) (xs := d.hs) k1 ⟨by rw [hhs]; simp [Ty.n], fun i z hz => ?_⟩ fun g hg => h2 g ((k3 g).2 (.inl hg))
  obtain ⟨v, m1, m2⟩ := elem_view h' h2 hk hz
  have e1 : (d.hs.drop (i * (Ty.sl u).n)).take (Ty.sl u).n = [v] := by
    obtain ⟨hl, hg⟩ := List.getElem?_eq_some_iff.1 m1
    simp only [Ty.n, Nat.mul_one]
    rw [List.drop_eq_getElem_cons hl, hg]
    rfl
  rw [e1]
  exact m2
theorem viewA_rel (hR : Rl w0 B hd S a w val) {H : Hp} {ok2 : Nat → Prop} (hH : ∀ n b, H[n]? = some (some b) → S.H[n]? = some (some b) ∧ ∀ g ∈ (val n).F, ok2 g) (hk : ∀ b, okF S.H val b → ok2 b) {N' : Nat} {val' : Nat → Bd} :
    ∀ (k : Nat) {x : AV} {v : Value}, VRel (okF S.H val) w S.H.length val x v → VRel ok2 w N' val' (viewA H k x) v
  | 0, x, v, _ => by simp [viewA, VRel]
  | k + 1, x, v, hx => by
    have mapR : ∀ {xs : List AV} {vs : List Value}, VRelL (okF S.H val) w S.H.length val xs vs → VRelL ok2 w N' val' (xs.map (viewA H k)) vs := fun {xs} => by
      induction xs with
      | nil =>
        intro vs h
        cases vs with
        | nil => simp [VRelL]
        | cons v vs => simp [VRelL] at h
      | cons x xs ih =>
        intro vs h
        cases vs with
        | nil => simp [VRelL] at h
        | cons v vs => simp only [VRelL, List.map_cons] at h ⊢; exact ⟨viewA_rel hR hH hk k h.1, ih h.2⟩
    cases x <;> simp only [viewA] <;> simp only [VRel] at hx <;> (try (simp [VRel]; done))
    case ref n =>
      split
      · rename_i e t l hn
        obtain ⟨h1, h2⟩ := hH _ _ hn
        simp only [VRel]
        rw [hx.2]
        exact row_view (hR.heap.blk n _ h1) h2 hk
      · rename_i e e2 t l hn
        obtain ⟨h1, h2⟩ := hH _ _ hn
        simp only [VRel]
        rw [hx.2]
        exact rows_view (hR.heap.blk n _ h1) h2 hk
      · simp [VRel]
    case elem n i =>
      split
      · rename_i e e2 t l hn
        obtain ⟨h1, h2⟩ := hH _ _ hn
        simp only [VRel]
        have hb := hR.heap.blk n _ h1
        have hhs : (val n).hs.length = (l ()).length := by have := hb.1.1; simpa using this
        have hlt : (i ()).toNat < (l ()).length := by rw [← hhs]; exact (List.getElem?_eq_some_iff.1 hx.2.2).1
        obtain ⟨u, m1, m2⟩ := elem_view hb h2 hk (getR_get (i := i ()) hx.2.1 (by omega))
        rw [hx.2.2] at m1
        cases m1
        exact m2
      · simp [VRel]
    case ptr n i =>
      split
      · rename_i e cs hn
        obtain ⟨h1, h2⟩ := hH _ _ hn
        obtain ⟨hlt, g, hv, rfl⟩ := hx
        obtain ⟨g', cur, k1, k2, k3, k4, k5⟩ := hR.heap.blk n _ h1
        rw [hv] at k1
        cases k1
        simp only [VRel]
        exact ⟨g, cur.toList, rfl, h2 g (by rw [k5]; simp), (Array.getElem?_eq_some_iff.1 k2).1, fun j u hu => by simp [World.cell?, k2]; simpa using hu, mapR k3, k4⟩
      · simp [VRel]
    case cells l => obtain ⟨cs, h1, h2, h3⟩ := hx; simp only [VRel]; exact ⟨cs, h1, mapR h2, h3⟩
    case fn f l => obtain ⟨cs, h1, h2⟩ := hx; simp only [VRel]; exact ⟨cs, h1, mapR h2⟩
    case sl t l => simp only [VRel]; exact hx.weak hk
    case agg t d => obtain ⟨cs, h1, h2⟩ := hx; simp only [VRel]; exact ⟨cs, h1, h2.weak hk⟩
    case iptr t d => simp only [VRel]; exact PRel.weak hk hx
    all_goals (simp only [VRel]; exact hx)
theorem argV_rel (hR : Rl w0 B hd S a w val) {H : Hp} {ok2 : Nat → Prop} (hH : ∀ n b, H[n]? = some (some b) → S.H[n]? = some (some b) ∧ ∀ g ∈ (val n).F, ok2 g) (hk : ∀ b, okF S.H val b → ok2 b) {N' : Nat} {val' : Nat → Bd}
    {t : TypeId} {x : AV} {v : Value} (hx : VRel (okF S.H val) w S.H.length val x v) : VRel ok2 w N' val' (argV T H t x) v := by
  unfold argV
  split
  · split
    · rename_i y hy
      exact injT_rel (viewD_rep hR hH hk hx hy).1
    · exact viewA_rel hR hH hk 4 hx
  · exact viewA_rel hR hH hk 4 hx
theorem argVs_rel (hR : Rl w0 B hd S a w val) {H : Hp} {ok2 : Nat → Prop} (hH : ∀ n b, H[n]? = some (some b) → S.H[n]? = some (some b) ∧ ∀ g ∈ (val n).F, ok2 g) (hk : ∀ b, okF S.H val b → ok2 b) {N' : Nat} {val' : Nat → Bd} :
    ∀ {ts : List TypeId} {xs : List AV} {vs : List Value}, VRelL (okF S.H val) w S.H.length val xs vs → VRelL ok2 w N' val' (argVs T H ts xs) vs
  | ts, [], [], _ => by cases ts <;> simp [argVs, VRelL]
  | _, [], _ :: _, h => by simp [VRelL] at h
  | _, _ :: _, [], h => by simp [VRelL] at h
  | [], x :: xs, v :: vs, h => by simp only [VRelL, argVs] at h ⊢; exact ⟨viewA_rel hR hH hk 4 h.1, argVs_rel hR hH hk h.2⟩
  | t :: ts, x :: xs, v :: vs, h => by simp only [VRelL, argVs] at h ⊢; exact ⟨argV_rel hR hH hk h.1, argVs_rel hR hH hk h.2⟩
theorem argsM_rel {ok : Nat → Prop} {N' : Nat} {val' : Nat → Bd} {σ : List Nat} : ∀ {xs us ys : List AV} {vs : List Value}, argsM σ xs us ys → VRelL ok w N' val' us vs → (∀ x y v, VRel (okF S.H val) w S.H.length val x v → x = ren σ y → ltA σ.length y = true → VRel ok w N' val' y v) → VRelL (okF S.H val) w S.H.length val xs vs → VRelL ok w N' val' ys vs
  | [], [], [], [], _, _, _, _ => by simp [VRelL]
  | [], [], [], _ :: _, _, h, _, _ => by simp [VRelL] at h
  | x :: xs, u :: us, y :: ys, [], _, h, _, _ => by simp [VRelL] at h
  | x :: xs, u :: us, y :: ys, v :: vs, h, hu, hr, hx => by
    simp only [argsM, VRelL] at h hu hx ⊢
    refine ⟨?_, argsM_rel h.2 hu.2 hr hx.2⟩
    rcases h.1 with rfl | ⟨h1, h2⟩
    · exact hu.1
    · exact hr x y v hx.1 h1 h2
  | [], [], _ :: _, _, h, _, _, _ => by simp [argsM] at h
  | [], _ :: _, [], _, h, _, _, _ => by simp [argsM] at h
  | _ :: _, [], [], _, h, _, _, _ => by simp [argsM] at h
  | [], _ :: _, _ :: _, _, h, _, _, _ => by simp [argsM] at h
  | _ :: _, [], _ :: _, _, h, _, _, _ => by simp [argsM] at h
  | _ :: _, _ :: _, [], _, h, _, _, _ => by simp [argsM] at h
theorem preM_get {H : Hp} {ρ : List Nat} : ∀ {σ : List Nat} {pre : Hp} {i : Nat} {x : Option Blk}, preM H ρ σ pre → pre[i]? = some x → ∃ n b, σ[i]? = some n ∧ x = some b ∧ H[n]? = some (some (renB ρ b)) ∧ ltB ρ.length b = true
  | [], [], i, x, _, h => by simp at h
  | [], _ :: _, _, _, h, _ => by simp [preM] at h
  | n :: σ, none :: r, i, x, h, _ => by simp [preM] at h
  | n :: σ, some b :: r, 0, x, h, hx => by simp [preM] at h hx; subst hx; exact ⟨n, b, rfl, rfl, h.1, h.2.1⟩
  | n :: σ, some b :: r, i + 1, x, h, hx => by simp only [preM] at h; simpa using preM_get h.2.2 (by simpa using hx)
  | _ :: _, [], i, x, h, hx => by simp at hx
theorem preM_len {H : Hp} {ρ : List Nat} : ∀ {σ : List Nat} {pre : Hp}, preM H ρ σ pre → pre.length = σ.length
  | [], [], _ => rfl
  | [], _ :: _, h => by simp [preM] at h
  | n :: σ, none :: r, h => by simp [preM] at h
  | n :: σ, some b :: r, h => by simp only [preM] at h; simp [preM_len h.2.2]
  | _ :: _, [], h => by simp [preM] at h
theorem BRel.unren {ok ok2 : Nat → Prop} {N N' : Nat} {val val' : Nat → Bd} {ρ : List Nat} (hk : ∀ b, ok b → ok2 b) (hv : ∀ n, n < N → (val' (nth ρ n)).v = (val n).v ∧ (val' (nth ρ n)).hs = (val n).hs) {d : Bd} {b : Blk} (hl : ltB N b = true) (h : BRel ok w N' val' d (renB ρ b)) : BRel ok2 w N val d b := by
  cases b with
  | row e t l => obtain ⟨xs, h1, h2, h3⟩ := h; exact ⟨xs, h1, ⟨h2.1, fun i y hy => (h2.2 i y hy).weak hk⟩, h3⟩
  | rows e e2 t l =>
    obtain ⟨h1, h2, h3⟩ := h
    refine ⟨h1, fun i y hy => ?_, h3⟩
    obtain ⟨v, xs, k1, k2, k3⟩ := h2 i y hy
    exact ⟨v, xs, k1, k2, k3.1, fun i y hy => (k3.2 i y hy).weak hk⟩
  | rowsH e e2 t l k =>
    obtain ⟨h1, h2, h3⟩ := h
    refine ⟨h1, fun i y hy hi => ?_, h3⟩
    obtain ⟨v, xs, k1, k2, k3⟩ := h2 i y hy hi
    exact ⟨v, xs, k1, k2, k3.1, fun i y hy => (k3.2 i y hy).weak hk⟩
  | box e cs =>
    obtain ⟨g, cur, h1, h2, h3, h4⟩ := h
    exact ⟨g, cur, h1, h2, (VRelL.unren hv hl h3).keep ⟨Nat.le_refl _, fun b hb _ => ⟨hk b hb, rfl⟩, Nat.le_refl _, fun _ _ => rfl, fun _ _ => rfl⟩, h4⟩
theorem BRel.ren {ok ok2 : Nat → Prop} {N N' : Nat} {val val' : Nat → Bd} {ρ : List Nat} (hk : ∀ b, ok b → ok2 b) (hv : ∀ n, n < N → nth ρ n < N' ∧ (val' (nth ρ n)).v = (val n).v ∧ (val' (nth ρ n)).hs = (val n).hs) {d : Bd} {b : Blk} (h : BRel ok w N val d b) : BRel ok2 w N' val' d (renB ρ b) := by
  cases b with
  | row e t l => obtain ⟨xs, h1, h2, h3⟩ := h; exact ⟨xs, h1, ⟨h2.1, fun i y hy => (h2.2 i y hy).weak hk⟩, h3⟩
  | rows e e2 t l =>
    obtain ⟨h1, h2, h3⟩ := h
    refine ⟨h1, fun i y hy => ?_, h3⟩
    obtain ⟨v, xs, k1, k2, k3⟩ := h2 i y hy
    exact ⟨v, xs, k1, k2, k3.1, fun i y hy => (k3.2 i y hy).weak hk⟩
  | rowsH e e2 t l k =>
    obtain ⟨h1, h2, h3⟩ := h
    refine ⟨h1, fun i y hy hi => ?_, h3⟩
    obtain ⟨v, xs, k1, k2, k3⟩ := h2 i y hy hi
    exact ⟨v, xs, k1, k2, k3.1, fun i y hy => (k3.2 i y hy).weak hk⟩
  | box e cs =>
    obtain ⟨g, cur, h1, h2, h3, h4⟩ := h
    exact ⟨g, cur, h1, h2, (h3.keep ⟨Nat.le_refl _, fun b hb _ => ⟨hk b hb, rfl⟩, Nat.le_refl _, fun _ _ => rfl, fun _ _ => rfl⟩).ren hv, h4⟩
end
end Go.Proofs.Ytbkdmnohpjihgaa.M

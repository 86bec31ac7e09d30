/- Operations that make memory or write it. -/
import Derived.Test.YtbkdmnohpjihgaaAbs7
import Derived.Great.BuildSlice
namespace Go.Proofs.Ytbkdmnohpjihgaa.Abs
open Go.RowKit
set_option linter.unusedVariables false

def upd (val : Nat → Value) (n : Nat) (v : Value) : Nat → Value := fun m => if m = n then v else val m
theorem upd_self (val : Nat → Value) (n : Nat) (v : Value) : upd val n v n = v := by simp [upd]
theorem upd_lt (val : Nat → Value) {n m : Nat} (v : Value) (h : m < n) : upd val n v m = val m := by simp [upd, show m ≠ n by omega]
section
variable {P : Program} {w0 w w1 : World} {S : AS} {a : Act} {val : Nat → Value}
theorem own_lt (hR : Rl w0 S a w val) {n : Nat} {B : Blk} (hB : S.H[n]? = some (some B)) {g : Nat} (hg : ownB (val n) = some g) : g < w.heap.size ∧ w0.heap.size ≤ g := by
  have hH := hR.heap n B hB
  cases B with
  | row e t l =>
    obtain ⟨xs, h1, _⟩ := hH
    rcases h1.2 with ⟨h2, _⟩ | ⟨g', cap, cur, hv, hb, hgg, _⟩
    · rw [h2] at hg; cases hg
    · rw [hv] at hg; cases hg
      exact ⟨(Array.getElem?_eq_some_iff.1 hgg).1, hb⟩
  | box e cs =>
    obtain ⟨g', cur, hv, hb, hgg, _⟩ := hH
    rw [hv] at hg; cases hg
    exact ⟨(Array.getElem?_eq_some_iff.1 hgg).1, hb⟩
theorem get_app {H : Hp} {B : Blk} {m : Nat} {C : Blk} (h : (H ++ [some B])[m]? = some (some C)) : (m < H.length ∧ H[m]? = some (some C)) ∨ (m = H.length ∧ C = B) := by
  by_cases hm : m < H.length
  · rw [List.getElem?_append_left hm] at h; exact .inl ⟨hm, h⟩
  · rw [List.getElem?_append_right (by omega)] at h
    have h0 : m - H.length = 0 := by
      rcases Nat.eq_zero_or_pos (m - H.length) with h' | h'
      · exact h'
      · rw [List.getElem?_eq_none (by simp; omega)] at h; cases h
    rw [h0] at h
    simp at h
    exact .inr ⟨by omega, h.symm⟩
/-- A new block, in a world that has grown. -/
theorem Rl.fresh (hR : Rl w0 S a w val) (hb : Below w.heap.size w w1) {v : Value} {B : Blk} (hv : ∀ g, ownB v = some g → w.heap.size ≤ g)
    (hB : ∀ val', (∀ m, m < S.H.length → val' m = val m) → val' S.H.length = v → BRel w0.heap.size (okB (S.H ++ [some B]) val') w1 (S.H.length + 1) val' S.H.length B) :
    Rl w0 { S with H := S.H ++ [some B] } a w1 (upd val S.H.length v) := by
  have hR1 := hR.grow hb
  have K : Keep (okB S.H val) (okB (S.H ++ [some B]) (upd val S.H.length v)) w w1 S.H.length (S.H ++ [some B]).length val (upd val S.H.length v) := by
    refine ⟨hb.size, fun b hk hlt => ⟨fun m C hC hg => ?_, hb.block b hlt⟩, by simp, fun m hm => upd_lt val v hm⟩
    rcases get_app hC with ⟨hm, hC⟩ | ⟨rfl, rfl⟩
    · rw [upd_lt val v hm] at hg; exact hk m C hC hg
    · rw [upd_self] at hg; have := hv b hg; omega
  refine ⟨hR1.below, hR.len, hR.defers, fun t => (hR.tmps t).keep K, fun m C hC => ?_, fun m k C D g hC hD hg hg' => ?_⟩
  · rcases get_app hC with ⟨hm, hC⟩ | ⟨rfl, rfl⟩
    · exact (hR.heap m C hC).keep K hm fun g hg => hb.block g (own_lt hR hC hg).1
    · have := hB (upd val S.H.length v) (fun m hm => upd_lt val v hm) (upd_self _ _ _)
      simpa using this
  · rcases get_app hC with ⟨hm, hC1⟩ | ⟨rfl, hE⟩ <;> rcases get_app hD with ⟨hk, hD1⟩ | ⟨rfl, hE'⟩
    · rw [upd_lt val v hm] at hg; rw [upd_lt val v hk] at hg'
      exact hR.apart m k C D g hC1 hD1 hg hg'
    · rw [upd_lt val v hm] at hg; rw [upd_self] at hg'
      have := (own_lt hR hC1 hg).1; have := hv g hg'; omega
    · rw [upd_self] at hg; rw [upd_lt val v hk] at hg'
      have := (own_lt hR hD1 hg').1; have := hv g hg; omega
    · rfl
theorem Rl.freshRow (hR : Rl w0 S a w val) (hb : Below w.heap.size w w1) {v : Value} {e : TypeId} {t : Ty} {l : List t.den} {xs : List Value}
    (ho : w1.ownsRow w.heap.size e t.n v l.length xs) (hr : RepL (fun b => okB S.H val b ∧ ownB v ≠ some b) w1 t l xs) :
    Rl w0 { S with H := S.H ++ [some (.row e t l)] } a w1 (upd val S.H.length v) := by
  have hv : ∀ g, ownB v = some g → w.heap.size ≤ g := by
    intro g hg
    rcases ho.2 with ⟨h2, _⟩ | ⟨g', cap, cur, hv, hb, _⟩
    · rw [h2] at hg; cases hg
    · rw [hv] at hg; cases hg; exact hb
  refine hR.fresh hb hv fun val' h1 h2 => ⟨xs, ?_, hr.1, fun i y hy => (hr.2 i y hy).weak fun b hbk m C hC hg => ?_⟩
  · rw [h2]
    refine ⟨ho.1, ?_⟩
    rcases ho.2 with h | ⟨g, cap, cur, k1, k2, k3⟩
    · exact .inl h
    · exact .inr ⟨g, cap, cur, k1, Nat.le_trans hR.below.size k2, k3⟩
  · rcases get_app hC with ⟨hm, hC⟩ | ⟨rfl, rfl⟩
    · rw [h1 m hm] at hg; exact hbk.1 m C hC hg
    · rw [h2] at hg; exact hbk.2 hg
theorem Rl.freshBox (hR : Rl w0 S a w val) {e : TypeId} {cs : List AV} {cur : Array Value} (hl : cur.size = cs.length)
    (hc : ∀ (i : Nat) (c : AV), cs[i]? = some c → ∃ u, cur[i]? = some u ∧ u.oneCell' = true ∧ VRel (okB S.H val) w S.H.length val c u) :
    Rl w0 { S with H := S.H ++ [some (.box e cs)] } a (w.alloc (.cells cur e)) (upd val S.H.length (.pointer (some ⟨w.heap.size, 0, none⟩))) := by
  have hb : Below w.heap.size w (w.alloc (.cells cur e)) := (Below.refl _ _).alloc (Nat.le_refl _) _
  refine hR.fresh hb (fun g hg => by cases hg; exact Nat.le_refl _) fun val' h1 h2 => ⟨w.heap.size, cur, h2, hR.below.size, heap_alloc_new _ _, hl, fun i c hi => ?_⟩
  obtain ⟨u, hu, ho, hv⟩ := hc i c hi
  refine ⟨u, hu, ho, hv.keep ⟨hb.size, fun b hk hlt => ⟨fun m C hC hg => ?_, hb.block b hlt⟩, by omega, h1⟩⟩
  rcases get_app hC with ⟨hm, hC⟩ | ⟨rfl, rfl⟩
  · rw [h1 m hm] at hg; exact hk m C hC hg
  · rw [h2] at hg; simp [ownB] at hg; omega
theorem get_set {H : Hp} {n m : Nat} {x : Option Blk} {C : Blk} (h : (H.set n x)[m]? = some (some C)) : (m = n ∧ x = some C) ∨ (m ≠ n ∧ H[m]? = some (some C)) := by
  by_cases hm : n = m
  · subst hm
    rw [List.getElem?_set] at h
    simp at h
    obtain ⟨_, h⟩ := h
    exact .inl ⟨rfl, h⟩
  · rw [List.getElem?_set_ne hm] at h
    exact .inr ⟨fun e => hm e.symm, h⟩
/-- A block of the call's own is written: all others are as they were. -/
theorem Rl.write (hR : Rl w0 S a w val) {n : Nat} {B B' : Blk} (hB : S.H[n]? = some (some B)) {g : Nat} (hg : ownB (val n) = some g)
    (hsz : w1.heap.size = w.heap.size) (ho : w1.os = w.os) (htp : w1.tape = w.tape) (hout : w1.output = w.output) (hh : ∀ k, k ≠ g → w1.heap[k]? = w.heap[k]?)
    (hB' : Keep (okB S.H val) (okB S.H val) w w1 S.H.length S.H.length val val → BRel w0.heap.size (okB S.H val) w1 S.H.length val n B') :
    Rl w0 { S with H := S.H.set n (some B') } a w1 val := by
  have hkk : okB (S.H.set n (some B')) val = okB S.H val := by
    funext b
    apply propext
    constructor
    · intro h m C hC hgm
      by_cases hm : m = n
      · subst hm
        exact h m B' (by rw [List.getElem?_set_self (lt_of_some hB)]) hgm
      · exact h m C (by rw [List.getElem?_set_ne (Ne.symm hm)]; exact hC) hgm
    · intro h m C hC hgm
      rcases get_set hC with ⟨rfl, _⟩ | ⟨_, hC⟩
      · exact h m B hB hgm
      · exact h m C hC hgm
  have K : Keep (okB S.H val) (okB S.H val) w w1 S.H.length S.H.length val val :=
    ⟨by omega, fun b hk hlt => ⟨hk, hh b fun e => hk n B hB (by rw [hg, e])⟩, Nat.le_refl _, fun _ _ => rfl⟩
  refine ⟨?_, hR.len, hR.defers, fun t => ?_, fun m C hC => ?_, fun m k C D q hC hD => ?_⟩
  · refine hR.below.trans ⟨ho, htp, hout, by omega, fun k hk => hh k fun e => ?_⟩
    have := (own_lt hR hB hg).2
    omega
  · rw [hkk]
    simp only [List.length_set]
    exact (hR.tmps t).keep K
  · rw [hkk]
    simp only [List.length_set]
    rcases get_set hC with ⟨rfl, h⟩ | ⟨hne, hC⟩
    · cases h; exact hB' K
    · refine (hR.heap m C hC).keep K (lt_of_some hC) fun q hq => hh q fun e => ?_
      subst e
      exact hne (hR.apart m n C B q hC hB hq hg)
  · have f : ∀ {x : Nat} {X : Blk}, (S.H.set n (some B'))[x]? = some (some X) → ∃ Y, S.H[x]? = some (some Y) := fun {x X} hX => by
      rcases get_set hX with ⟨rfl, _⟩ | ⟨_, hX⟩
      · exact ⟨B, hB⟩
      · exact ⟨X, hX⟩
    obtain ⟨C', hC'⟩ := f hC
    obtain ⟨D', hD'⟩ := f hD
    exact hR.apart m k C' D' q hC' hD'
/-- A row of the call's own has got more elements: it has a new name, the old one is gone. -/
theorem Rl.renew (hR : Rl w0 S a w val) {n : Nat} {B : Blk} (hB : S.H[n]? = some (some B)) (hg : w.grownBy w1 (ownB (val n))) {v : Value} (hv : ownB v = ownB (val n) ∨ ∀ g, ownB v = some g → w.heap.size ≤ g)
    {e : TypeId} {t : Ty} {l : List t.den} {xs : List Value} (ho : w1.ownsRow w0.heap.size e t.n v l.length xs) (hr : RepL (okB S.H val) w t l xs) :
    Rl w0 { S with H := S.H.set n none ++ [some (.row e t l)] } a w1 (upd val S.H.length v) := by
  have gd : ∀ {m : Nat} {C : Blk}, (S.H.set n none ++ [some (.row e t l)])[m]? = some (some C) → (m < S.H.length ∧ m ≠ n ∧ S.H[m]? = some (some C)) ∨ (m = S.H.length ∧ C = .row e t l) := by
    intro m C h
    rcases get_app h with ⟨h1, h2⟩ | ⟨h1, h2⟩
    · rcases get_set h2 with ⟨_, h3⟩ | ⟨h3, h4⟩
      · cases h3
      · exact .inl ⟨by simpa using h1, h3, h4⟩
    · exact .inr ⟨by simpa using h1, h2⟩
  have K : Keep (okB S.H val) (okB (S.H.set n none ++ [some (.row e t l)]) (upd val S.H.length v)) w w1 S.H.length (S.H.set n none ++ [some (Blk.row e t l)]).length val (upd val S.H.length v) := by
    refine ⟨hg.size, fun b hk hlt => ⟨fun m C hC hgm => ?_, hg.block b hlt fun e => hk n B hB e.symm⟩, by simp, fun m hm => upd_lt val v hm⟩
    rcases gd hC with ⟨hm, hne, hC⟩ | ⟨rfl, _⟩
    · rw [upd_lt val v hm] at hgm; exact hk m C hC hgm
    · rw [upd_self] at hgm
      rcases hv with hv | hv
      · rw [hv] at hgm; exact hk n B hB hgm
      · have := hv b hgm; omega
  have away : ∀ {m : Nat} {C : Blk} {g : Nat}, m ≠ n → S.H[m]? = some (some C) → ownB (val m) = some g → some g ≠ ownB (val n) := fun hne hC hgm e => hne (hR.apart _ n _ B _ hC hB hgm e.symm)
  refine ⟨?_, hR.len, hR.defers, fun t => (hR.tmps t).keep K, fun m C hC => ?_, fun m k C D q hC hD hq hq' => ?_⟩
  · refine hR.below.trans ⟨hg.os, hg.tape, hg.output, hg.size, fun k hk => hg.block k (Nat.lt_of_lt_of_le hk hR.below.size) fun e => ?_⟩
    have := (own_lt hR hB e.symm).2
    omega
  · rcases gd hC with ⟨hm, hne, hC⟩ | ⟨rfl, rfl⟩
    · exact (hR.heap m C hC).keep K hm fun g hgm => hg.block g (own_lt hR hC hgm).1 (away hne hC hgm)
    · exact ⟨xs, by rw [upd_self]; exact ho, hr.1, fun i y hy => (hr.2 i y hy).mono K.size K.ok⟩
  · rcases gd hC with ⟨hm, hne, hC⟩ | ⟨rfl, hE⟩ <;> rcases gd hD with ⟨hk, hne', hD⟩ | ⟨rfl, hE'⟩
    · rw [upd_lt val v hm] at hq; rw [upd_lt val v hk] at hq'
      exact hR.apart m k C D q hC hD hq hq'
    · rw [upd_lt val v hm] at hq; rw [upd_self] at hq'
      rcases hv with hv | hv
      · rw [hv] at hq'; exact (away hne hC hq hq'.symm).elim
      · have := (own_lt hR hC hq).1; have := hv q hq'; omega
    · rw [upd_self] at hq; rw [upd_lt val v hk] at hq'
      rcases hv with hv | hv
      · rw [hv] at hq; exact (away hne' hD hq' hq.symm).elim
      · have := (own_lt hR hD hq').1; have := hv q hq; omega
    · rfl
end
end Go.Proofs.Ytbkdmnohpjihgaa.Abs

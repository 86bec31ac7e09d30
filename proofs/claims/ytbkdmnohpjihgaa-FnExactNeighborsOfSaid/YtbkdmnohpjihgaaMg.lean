/- How memory may change: new blocks, blocks that are written, blocks that grow or take in others. -/
import Derived.Test.YtbkdmnohpjihgaaMf
namespace Go.Proofs.Ytbkdmnohpjihgaa.M
open Go.RowKit Abs
set_option linter.unusedVariables false
set_option linter.unusedSimpArgs false

def upd (val : Nat → Bd) (n : Nat) (v : Bd) : Nat → Bd := fun m => if m = n then v else val m
theorem upd_self (val : Nat → Bd) (n : Nat) (v : Bd) : upd val n v n = v := by simp [upd]
theorem upd_ne (val : Nat → Bd) {n m : Nat} (v : Bd) (h : m ≠ n) : upd val n v m = val m := by simp [upd, h]
def scrubBlk (n : Nat) (full : Bool) : Blk → Blk
  | .box e cs => .box e (scrubL n full cs)
  | b => b
def scrubH (n : Nat) (full : Bool) : Hp → Hp
  | [] => []
  | x :: r => (match x with | some b => some (scrubBlk n full b) | none => none) :: scrubH n full r
def dropC : List Nat → Hp → Hp
  | [], H => H
  | c :: r, H => dropC r (H.set c none)
theorem scrubH_len (n : Nat) (full : Bool) : ∀ H : Hp, (scrubH n full H).length = H.length
  | [] => rfl
  | x :: r => by simp [scrubH, scrubH_len n full r]
theorem scrubH_get {n : Nat} {full : Bool} : ∀ {H : Hp} {m : Nat} {b : Blk}, (scrubH n full H)[m]? = some (some b) → ∃ c, H[m]? = some (some c) ∧ b = scrubBlk n full c
  | [], m, b, h => by simp [scrubH] at h
  | x :: r, 0, b, h => by
    simp only [scrubH, List.getElem?_cons_zero, Option.some.injEq] at h
    cases x with
    | none => cases h
    | some c => cases h; exact ⟨c, rfl, rfl⟩
  | x :: r, m + 1, b, h => by simpa using scrubH_get (H := r) (m := m) (by simpa [scrubH] using h)
theorem scrubH_of {n : Nat} {full : Bool} : ∀ {H : Hp} {m : Nat} {c : Blk}, H[m]? = some (some c) → (scrubH n full H)[m]? = some (some (scrubBlk n full c))
  | [], m, b, h => by simp at h
  | x :: r, 0, c, h => by simp at h; subst h; simp [scrubH]
  | x :: r, m + 1, c, h => by simpa [scrubH] using scrubH_of (H := r) (m := m) (by simpa using h)
theorem dropC_len : ∀ (C : List Nat) (H : Hp), (dropC C H).length = H.length
  | [], H => rfl
  | c :: r, H => by simp [dropC, dropC_len r]
theorem get_set {H : Hp} {n m : Nat} {x : Option Blk} {C : Blk} (h : (H.set n x)[m]? = some (some C)) : (m = n ∧ x = some C) ∨ (m ≠ n ∧ H[m]? = some (some C)) := by
  by_cases hm : n = m
  · subst hm
    rw [List.getElem?_set] at h
    simp at h
    obtain ⟨_, h⟩ := h
    exact .inl ⟨rfl, h⟩
  · rw [List.getElem?_set_ne hm] at h
    exact .inr ⟨fun e => hm e.symm, h⟩
theorem dropC_get : ∀ {C : List Nat} {H : Hp} {m : Nat} {b : Blk}, (dropC C H)[m]? = some (some b) → m ∉ C ∧ H[m]? = some (some b)
  | [], H, m, b, h => ⟨by simp, h⟩
  | c :: r, H, m, b, h => by
    obtain ⟨h1, h2⟩ := dropC_get (C := r) (by simpa [dropC] using h)
    rcases get_set h2 with ⟨_, h3⟩ | ⟨h3, h4⟩
    · cases h3
    · exact ⟨by simp [h1, h3], h4⟩
theorem lt_of_some {H : Hp} {n : Nat} {B : Blk} (h : H[n]? = some (some B)) : n < H.length := (List.getElem?_eq_some_iff.1 h).1
theorem get_app {H : Hp} {B : Blk} {m : Nat} {C : Blk} (h : (H ++ [some B])[m]? = some (some C)) : (m < H.length ∧ H[m]? = some (some C)) ∨ (m = H.length ∧ C = B) := by
  by_cases hm : m < H.length
  · rw [List.getElem?_append_left hm] at h; exact .inl ⟨hm, h⟩
  · rw [List.getElem?_append_right (by omega)] at h
    have h0 : m - H.length = 0 := by
      rcases Nat.eq_zero_or_pos (m - H.length) with h' | h'
      · exact h'
      · rw [List.getElem?_eq_none (by simp; omega)] at h; cases h
    rw [h0] at h
    simp at h
    exact .inr ⟨by omega, h.symm⟩
section
variable {P : Program} {w0 w w1 : World} {B : Nat → Prop} {hd : Nat → Value} {S : AS} {a : Act} {val : Nat → Bd}
theorem BRel.scrubM {ok ok' : Nat → Prop} {w w' : World} {N N' : Nat} {val val' : Nat → Bd} {n : Nat} {full : Bool} (K : Keep ok ok' w w' N N' val val' n full) {d : Bd} {b : Blk}
    (hh : ∀ g ∈ d.F, w'.heap[g]? = w.heap[g]?) (h : BRel ok w N val d b) : BRel ok' w' N' val' d (scrubBlk n full b) := by
  cases b with
  | row e t l =>
    obtain ⟨xs, h1, h2, h3⟩ := h
    exact ⟨xs, ownsRow_keep h1 (fun g hg => hh g (by rw [h3]; exact hg)), repL_keep K.size K.ok h2, h3⟩
  | rows e e2 t l =>
    obtain ⟨h1, h2, h3, h4⟩ := h
    refine ⟨ownsRow_keep h1 (fun g hg => hh g ((h3 g).2 (.inl (by simpa using hg)))), fun i y hy => ?_, h3, h4⟩
    obtain ⟨h, xs, k1, k2, k3⟩ := h2 i y hy
    exact ⟨h, xs, k1, ownsRow_keep k2 (fun g hg => hh g ((h3 g).2 (.inr ⟨h, List.mem_of_getElem? k1, by simpa using hg⟩))), repL_keep K.size K.ok k3⟩
  | rowsH e e2 t l k =>
    obtain ⟨h1, h2, h3, h4⟩ := h
    refine ⟨ownsRow_keep h1 (fun g hg => hh g ((h3 g).2 (.inl (by simpa using hg)))), fun i y hy hi => ?_, h3, h4⟩
    obtain ⟨h, xs, k1, k2, k3⟩ := h2 i y hy hi
    exact ⟨h, xs, k1, ownsRow_keep k2 (fun g hg => hh g ((h3 g).2 (.inr ⟨i, h, hi, k1, by simpa using hg⟩))), repL_keep K.size K.ok k3⟩
  | box e cs =>
    obtain ⟨g, cur, h1, h2, h3, h4, h5⟩ := h
    exact ⟨g, cur, h1, by rw [hh g (by rw [h5]; simp)]; exact h2, h3.scrub K, h4, h5⟩
/-- A new block, which may take in others. -/
theorem Rl.fresh (hR : Rl w0 B hd S a w val) (hb : Below w.heap.size w w1) (C : List Nat) {d : Bd} {b : Blk}
    (hF : ∀ g ∈ d.F, (w.heap.size ≤ g ∧ g < w1.heap.size) ∨ ∃ c, c ∈ C ∧ (∃ b', S.H[c]? = some (some b')) ∧ g ∈ (val c).F)
    (hB : ∀ val', (∀ m, m < S.H.length → val' m = val m) → val' S.H.length = d →
      (∀ b', okF S.H val b' → b' < w.heap.size → okF (dropC C S.H ++ [some b]) val' b' ∧ w1.heap[b']? = w.heap[b']?) → BRel (okF (dropC C S.H ++ [some b]) val') w1 (S.H.length + 1) val' d b) :
    Rl w0 B hd { S with H := dropC C S.H ++ [some b] } a w1 (upd val S.H.length d) := by
  have hlen : (dropC C S.H ++ [some b]).length = S.H.length + 1 := by simp [dropC_len]
  have get : ∀ {m : Nat} {X : Blk}, (dropC C S.H ++ [some b])[m]? = some (some X) → (m < S.H.length ∧ m ∉ C ∧ S.H[m]? = some (some X)) ∨ (m = S.H.length ∧ X = b) := fun {m X} h => by
    rcases get_app h with ⟨h1, h2⟩ | ⟨h1, h2⟩
    · obtain ⟨h3, h4⟩ := dropC_get h2
      exact .inl ⟨by simpa [dropC_len] using h1, h3, h4⟩
    · exact .inr ⟨by simpa [dropC_len] using h1, h2⟩
  have hlt : ∀ m, m < S.H.length → upd val S.H.length d m = val m := fun m hm => upd_ne val d (by omega)
  have hok : ∀ b', okF S.H val b' → b' < w.heap.size → okF (dropC C S.H ++ [some b]) (upd val S.H.length d) b' ∧ w1.heap[b']? = w.heap[b']? := fun b' hk hl => by
    refine ⟨fun m X hX hg => ?_, hb.block b' hl⟩
    rcases get hX with ⟨h1, _, h3⟩ | ⟨rfl, rfl⟩
    · rw [hlt m h1] at hg; exact hk m X h3 hg
    · rw [upd_self] at hg
      rcases hF b' hg with h | ⟨c, _, ⟨b2, h2⟩, h3⟩
      · omega
      · exact hk c b2 h2 h3
  have K : Keep0 (okF S.H val) (okF (dropC C S.H ++ [some b]) (upd val S.H.length d)) w w1 S.H.length (dropC C S.H ++ [some b]).length val (upd val S.H.length d) :=
    ⟨hb.size, hok, by omega, fun m hm => by rw [hlt m hm], fun m hm => by rw [hlt m hm]⟩
  refine ⟨hR.fr.trans hb, hR.len, hR.defers, fun t => (hR.tmps t).keep K, ⟨fun m X hX => ?_, fun m X hX g hg => ?_, fun m k X Y hne hX hY g hg hg' => ?_⟩, fun m X hX g hg => ?_, fun m hm => by rw [hlt m (Nat.lt_of_lt_of_le hm hR.kle)]; exact hR.kept m hm, by have := hR.kle; simp only [hlen]; omega⟩
  · rcases get hX with ⟨h1, _, h3⟩ | ⟨rfl, rfl⟩
    · rw [hlt m h1]
      exact (hR.heap.blk m X h3).keep K fun g hg => hb.block g (hR.heap.lt m X h3 g hg)
    · rw [upd_self, hlen]
      exact hB _ hlt (upd_self _ _ _) hok
  · rcases get hX with ⟨h1, _, h3⟩ | ⟨rfl, rfl⟩
    · rw [hlt m h1] at hg; exact Nat.lt_of_lt_of_le (hR.heap.lt m X h3 g hg) hb.size
    · rw [upd_self] at hg
      rcases hF g hg with h | ⟨c, _, ⟨b2, h2⟩, h3⟩
      · exact h.2
      · exact Nat.lt_of_lt_of_le (hR.heap.lt c b2 h2 g h3) hb.size
  · rcases get hX with ⟨h1, h1', h3⟩ | ⟨rfl, rfl⟩ <;> rcases get hY with ⟨k1, k1', k3⟩ | ⟨rfl, rfl⟩
    · rw [hlt m h1] at hg; rw [hlt k k1] at hg'; exact hR.heap.apart m k X Y hne h3 k3 g hg hg'
    · rw [hlt m h1] at hg; rw [upd_self] at hg'
      rcases hF g hg' with h | ⟨c, hc, ⟨b2, h2⟩, h4⟩
      · have := hR.heap.lt m X h3 g hg; omega
      · exact hR.heap.apart m c X b2 (fun e => h1' (e ▸ hc)) h3 h2 g hg h4
    · rw [upd_self] at hg; rw [hlt k k1] at hg'
      rcases hF g hg with h | ⟨c, hc, ⟨b2, h2⟩, h4⟩
      · have := hR.heap.lt k Y k3 g hg'; omega
      · exact hR.heap.apart k c Y b2 (fun e => k1' (e ▸ hc)) k3 h2 g hg' h4
    · exact hne rfl
  · rcases get hX with ⟨h1, _, h3⟩ | ⟨rfl, rfl⟩
    · rw [hlt m h1] at hg; exact hR.own m X h3 g hg
    · rw [upd_self] at hg
      rcases hF g hg with h | ⟨c, _, ⟨b2, h2⟩, h3⟩
      · exact .inl (Nat.le_trans hR.fr.size h.1)
      · exact hR.own c b2 h2 g h3
/-- A block of the call's own is written where it lies: all others are as they were. -/
theorem Rl.write (hR : Rl w0 B hd S a w val) {n : Nat} {b b' : Blk} (hB : S.H[n]? = some (some b))
    (hsz : w1.heap.size = w.heap.size) (ho : w1.os = w.os) (htp : w1.tape = w.tape) (hout : w1.output = w.output) (hh : ∀ k, k ∉ (val n).F → w1.heap[k]? = w.heap[k]?)
    (hB' : Keep0 (okF S.H val) (okF S.H val) w w1 S.H.length S.H.length val val → BRel (okF S.H val) w1 S.H.length val (val n) b') :
    Rl w0 B hd { S with H := S.H.set n (some b') } a w1 val := by
  have hkk : okF (S.H.set n (some b')) val = okF S.H val := by
    funext g
    apply propext
    constructor
    · intro h m X hX hgm
      by_cases hm : m = n
      · subst hm
        exact h m b' (by rw [List.getElem?_set_self (lt_of_some hB)]) hgm
      · exact h m X (by rw [List.getElem?_set_ne (Ne.symm hm)]; exact hX) hgm
    · intro h m X hX hgm
      rcases get_set hX with ⟨rfl, _⟩ | ⟨_, hX⟩
      · exact h m b hB hgm
      · exact h m X hX hgm
  have K : Keep0 (okF S.H val) (okF S.H val) w w1 S.H.length S.H.length val val :=
    ⟨by omega, fun g hk hlt => ⟨hk, hh g (hk n b hB)⟩, Nat.le_refl _, fun _ _ => rfl, fun _ _ => rfl⟩
  have f : ∀ {x : Nat} {X : Blk}, (S.H.set n (some b'))[x]? = some (some X) → ∃ Y, S.H[x]? = some (some Y) := fun {x X} hX => by
    rcases get_set hX with ⟨rfl, _⟩ | ⟨_, hX⟩
    · exact ⟨b, hB⟩
    · exact ⟨X, hX⟩
  refine ⟨⟨ho.trans hR.fr.os, htp.trans hR.fr.tape, hout.trans hR.fr.output, by have := hR.fr.size; omega, fun g hg hgB => ?_⟩, hR.len, hR.defers, fun t => ?_, ⟨fun m X hX => ?_, fun m X hX g hg => ?_, fun m k X Y hne hX hY => ?_⟩, fun m X hX g hg => ?_, hR.kept, by simpa using hR.kle⟩
  · rw [hh g fun hgF => ?_]
    · exact hR.fr.same g hg hgB
    · rcases hR.own n b hB g hgF with h | h
      · omega
      · exact hgB h
  · rw [hkk]
    simp only [List.length_set]
    exact (hR.tmps t).keep K
  · rw [hkk]
    simp only [List.length_set]
    rcases get_set hX with ⟨rfl, h⟩ | ⟨hne, hX⟩
    · cases h; exact hB' K
    · exact (hR.heap.blk m X hX).keep K fun q hq => hh q fun e => hR.heap.apart m n X b hne hX hB q hq e
  · obtain ⟨Y, hY⟩ := f hX
    have := hR.heap.lt m Y hY g hg
    omega
  · obtain ⟨X', hX'⟩ := f hX
    obtain ⟨Y', hY'⟩ := f hY
    exact hR.heap.apart m k X' Y' hne hX' hY'
  · obtain ⟨Y, hY⟩ := f hX
    exact hR.own m Y hY g hg
/-- A block of the call's own has changed, its value or that of its rows too; it may have taken in others. -/
theorem Rl.renew (hR : Rl w0 B hd S a w val) {n : Nat} {b b' : Blk} (hB : S.H[n]? = some (some b)) (full : Bool) (C : List Nat) (hC : n ∉ C) {d : Bd} (hv : full = false → d.v = (val n).v) (hkn : full = true → S.k ≤ n)
    (hsz : w.heap.size ≤ w1.heap.size) (ho : w1.os = w.os) (htp : w1.tape = w.tape) (hout : w1.output = w.output) (hh : ∀ k, k < w.heap.size → k ∉ (val n).F → w1.heap[k]? = w.heap[k]?)
    (hF : ∀ g ∈ d.F, (w.heap.size ≤ g ∧ g < w1.heap.size) ∨ g ∈ (val n).F ∨ ∃ c, c ∈ C ∧ (∃ b', S.H[c]? = some (some b')) ∧ g ∈ (val c).F)
    (hB' : ∀ val' H', val' n = d → (∀ m, m ≠ n → val' m = val m) → (∀ g, okF S.H val g → g < w.heap.size → okF H' val' g ∧ w1.heap[g]? = w.heap[g]?) → BRel (okF H' val') w1 S.H.length val' d b') :
    Rl w0 B hd { S with tm := scrubL n full S.tm, H := (scrubH n full (dropC C S.H)).set n (some b') } a w1 (upd val n d) := by
  have hlen : ((scrubH n full (dropC C S.H)).set n (some b')).length = S.H.length := by simp [dropC_len, scrubH_len]
  have get : ∀ {m : Nat} {X : Blk}, ((scrubH n full (dropC C S.H)).set n (some b'))[m]? = some (some X) → (m ≠ n ∧ m ∉ C ∧ ∃ Y, S.H[m]? = some (some Y) ∧ X = scrubBlk n full Y) ∨ (m = n ∧ X = b') := fun {m X} h => by
    rcases get_set h with ⟨rfl, h2⟩ | ⟨h1, h2⟩
    · cases h2; exact .inr ⟨rfl, rfl⟩
    · obtain ⟨Y, h3, h4⟩ := scrubH_get h2
      obtain ⟨h5, h6⟩ := dropC_get h3
      exact .inl ⟨h1, h5, Y, h6, h4⟩
  have hne : ∀ m, m ≠ n → upd val n d m = val m := fun m hm => upd_ne val d hm
  have hok : ∀ g, okF S.H val g → g < w.heap.size → okF ((scrubH n full (dropC C S.H)).set n (some b')) (upd val n d) g ∧ w1.heap[g]? = w.heap[g]? := fun g hk hl => by
    refine ⟨fun m X hX hg => ?_, hh g hl (hk n b hB)⟩
    rcases get hX with ⟨h1, _, Y, h3, _⟩ | ⟨rfl, rfl⟩
    · rw [hne m h1] at hg; exact hk m Y h3 hg
    · rw [upd_self] at hg
      rcases hF g hg with h | h | ⟨c, _, ⟨b2, h2⟩, h3⟩
      · omega
      · exact hk m b hB h
      · exact hk c b2 h2 h3
  have K : Keep (okF S.H val) (okF ((scrubH n full (dropC C S.H)).set n (some b')) (upd val n d)) w w1 S.H.length ((scrubH n full (dropC C S.H)).set n (some b')).length val (upd val n d) n full := by
    refine ⟨hsz, hok, by omega, fun m hm h => ?_, fun m hm h => ?_⟩
    · by_cases hmn : m = n
      · subst hmn
        rw [upd_self]
        exact hv (by simpa using h)
      · rw [hne m hmn]
    · rw [hne m (by simpa using h)]
  refine ⟨⟨ho.trans hR.fr.os, htp.trans hR.fr.tape, hout.trans hR.fr.output, by have := hR.fr.size; omega, fun g hg hgB => ?_⟩, by simp [scrubL_len, hR.len], hR.defers, fun t => ?_, ⟨fun m X hX => ?_, fun m X hX g hg => ?_, fun m k X Y hmk hX hY g hg hg' => ?_⟩, fun m X hX g hg => ?_, fun m hm => ?_, by have := hR.kle; simp only [hlen]; omega⟩
  · have := hR.fr.size
    rw [hh g (by omega) fun hgF => ?_]
    · exact hR.fr.same g hg hgB
    · rcases hR.own n b hB g hgF with h | h
      · omega
      · exact hgB h
  · have h := (hR.tmps t).scrub K
    have e : (scrubL n full S.tm).getD t .undef = scrub n full (S.tm.getD t .undef) := by
      rw [List.getD_eq_getElem?_getD, List.getD_eq_getElem?_getD, scrubL_get]
      cases S.tm[t]? <;> simp [scrub]
    rw [e]
    exact h
  · rcases get hX with ⟨h1, _, Y, h3, rfl⟩ | ⟨rfl, rfl⟩
    · rw [hne m h1]
      exact (hR.heap.blk m Y h3).scrubM K fun g hg => hh g (hR.heap.lt m Y h3 g hg) fun e => hR.heap.apart m n Y b h1 h3 hB g hg e
    · rw [upd_self, hlen]
      exact hB' _ _ (upd_self _ _ _) hne hok
  · rcases get hX with ⟨h1, _, Y, h3, rfl⟩ | ⟨rfl, rfl⟩
    · rw [hne m h1] at hg; have := hR.heap.lt m Y h3 g hg; omega
    · rw [upd_self] at hg
      rcases hF g hg with h | h | ⟨c, _, ⟨b2, h2⟩, h3⟩
      · exact h.2
      · have := hR.heap.lt m b hB g h; omega
      · have := hR.heap.lt c b2 h2 g h3; omega
  · have away : ∀ {m : Nat} {Y : Blk} {g : Nat}, m ≠ n → m ∉ C → S.H[m]? = some (some Y) → g ∈ (val m).F → g ∉ d.F := fun {m Y g} h1 h1' h3 hg hd => by
      rcases hF g hd with h | h | ⟨c, hc, ⟨b2, h2⟩, h4⟩
      · have := hR.heap.lt m Y h3 g hg; omega
      · exact hR.heap.apart m n Y b h1 h3 hB g hg h
      · exact hR.heap.apart m c Y b2 (fun e => h1' (e ▸ hc)) h3 h2 g hg h4
    rcases get hX with ⟨h1, h1', Y1, h3, rfl⟩ | ⟨rfl, rfl⟩ <;> rcases get hY with ⟨k1, k1', Y2, k3, rfl⟩ | ⟨rfl, rfl⟩
    · rw [hne m h1] at hg; rw [hne k k1] at hg'; exact hR.heap.apart m k Y1 Y2 hmk h3 k3 g hg hg'
    · rw [hne m h1] at hg; rw [upd_self] at hg'; exact away h1 h1' h3 hg hg'
    · rw [upd_self] at hg; rw [hne k k1] at hg'; exact away k1 k1' k3 hg' hg
    · exact hmk rfl
  · rcases get hX with ⟨h1, _, Y, h3, rfl⟩ | ⟨rfl, rfl⟩
    · rw [hne m h1] at hg; exact hR.own m Y h3 g hg
    · rw [upd_self] at hg
      rcases hF g hg with h | h | ⟨c, _, ⟨b2, h2⟩, h3⟩
      · exact .inl (Nat.le_trans hR.fr.size h.1)
      · exact hR.own m b hB g h
      · exact hR.own c b2 h2 g h3
  · by_cases hmn : m = n
    · subst hmn
      rw [upd_self]
      cases full with
      | true => have := hkn rfl; simp only at hm; omega
      | false => rw [hv rfl]; exact hR.kept m hm
    · rw [hne m hmn]; exact hR.kept m hm
/-- A block's memory has gone over into a new one. -/
theorem Rl.take (hR : Rl w0 B hd S a w val) {n : Nat} {b0 b : Blk} (hB : S.H[n]? = some (some b0)) {d : Bd}
    (hsz : w.heap.size ≤ w1.heap.size) (ho : w1.os = w.os) (htp : w1.tape = w.tape) (hout : w1.output = w.output) (hh : ∀ k, k < w.heap.size → k ∉ (val n).F → w1.heap[k]? = w.heap[k]?)
    (hF : ∀ g ∈ d.F, (w.heap.size ≤ g ∧ g < w1.heap.size) ∨ g ∈ (val n).F)
    (hB' : ∀ val' H', val' S.H.length = d → (∀ m, m < S.H.length → val' m = val m) → (∀ g, okF S.H val g → g < w.heap.size → okF H' val' g ∧ w1.heap[g]? = w.heap[g]?) → BRel (okF H' val') w1 (S.H.length + 1) val' d b) :
    Rl w0 B hd { S with H := dropC [n] S.H ++ [some b] } a w1 (upd val S.H.length d) := by
  have hlen : (dropC [n] S.H ++ [some b]).length = S.H.length + 1 := by simp [dropC_len]
  have get : ∀ {m : Nat} {X : Blk}, (dropC [n] S.H ++ [some b])[m]? = some (some X) → (m < S.H.length ∧ m ≠ n ∧ S.H[m]? = some (some X)) ∨ (m = S.H.length ∧ X = b) := fun {m X} h => by
    rcases get_app h with ⟨h1, h2⟩ | ⟨h1, h2⟩
    · obtain ⟨h3, h4⟩ := dropC_get h2
      exact .inl ⟨by simpa [dropC_len] using h1, by simpa using h3, h4⟩
    · exact .inr ⟨by simpa [dropC_len] using h1, h2⟩
  have hlt : ∀ m, m < S.H.length → upd val S.H.length d m = val m := fun m hm => upd_ne val d (by omega)
  have hok : ∀ g, okF S.H val g → g < w.heap.size → okF (dropC [n] S.H ++ [some b]) (upd val S.H.length d) g ∧ w1.heap[g]? = w.heap[g]? := fun g hk hl => by
    refine ⟨fun m X hX hg => ?_, hh g hl (hk n b0 hB)⟩
    rcases get hX with ⟨h1, _, h3⟩ | ⟨rfl, rfl⟩
    · rw [hlt m h1] at hg; exact hk m X h3 hg
    · rw [upd_self] at hg
      rcases hF g hg with h | h
      · omega
      · exact hk n b0 hB h
  have K : Keep0 (okF S.H val) (okF (dropC [n] S.H ++ [some b]) (upd val S.H.length d)) w w1 S.H.length (dropC [n] S.H ++ [some b]).length val (upd val S.H.length d) :=
    ⟨hsz, hok, by omega, fun m hm => by rw [hlt m hm], fun m hm => by rw [hlt m hm]⟩
  have away : ∀ {m : Nat} {Y : Blk} {g : Nat}, m ≠ n → S.H[m]? = some (some Y) → g ∈ (val m).F → g ∉ d.F := fun {m Y g} h1 h3 hg hdF => by
    rcases hF g hdF with h | h
    · have := hR.heap.lt m Y h3 g hg; omega
    · exact hR.heap.apart m n Y b0 h1 h3 hB g hg h
  refine ⟨⟨ho.trans hR.fr.os, htp.trans hR.fr.tape, hout.trans hR.fr.output, by have := hR.fr.size; omega, fun g hg hgB => ?_⟩, hR.len, hR.defers, fun t => (hR.tmps t).keep K, ⟨fun m X hX => ?_, fun m X hX g hg => ?_, fun m k X Y hne hX hY g hg hg' => ?_⟩, fun m X hX g hg => ?_, fun m hm => by rw [hlt m (Nat.lt_of_lt_of_le hm hR.kle)]; exact hR.kept m hm, by have := hR.kle; simp only [hlen]; omega⟩
  · have := hR.fr.size
    rw [hh g (by omega) fun hgF => ?_]
    · exact hR.fr.same g hg hgB
    · rcases hR.own n b0 hB g hgF with h | h
      · omega
      · exact hgB h
  · rcases get hX with ⟨h1, h2, h3⟩ | ⟨rfl, rfl⟩
    · rw [hlt m h1]
      exact (hR.heap.blk m X h3).keep K fun g hg => hh g (hR.heap.lt m X h3 g hg) fun e => hR.heap.apart m n X b0 h2 h3 hB g hg e
    · rw [upd_self, hlen]
      exact hB' _ _ (upd_self _ _ _) hlt hok
  · rcases get hX with ⟨h1, _, h3⟩ | ⟨rfl, rfl⟩
    · rw [hlt m h1] at hg; have := hR.heap.lt m X h3 g hg; omega
    · rw [upd_self] at hg
      rcases hF g hg with h | h
      · exact h.2
      · have := hR.heap.lt n b0 hB g h; omega
  · rcases get hX with ⟨h1, h2, h3⟩ | ⟨rfl, rfl⟩ <;> rcases get hY with ⟨k1, k2, k3⟩ | ⟨rfl, rfl⟩
    · rw [hlt m h1] at hg; rw [hlt k k1] at hg'; exact hR.heap.apart m k X Y hne h3 k3 g hg hg'
    · rw [hlt m h1] at hg; rw [upd_self] at hg'; exact away h2 h3 hg hg'
    · rw [upd_self] at hg; rw [hlt k k1] at hg'; exact away k2 k3 hg' hg
    · exact hne rfl
  · rcases get hX with ⟨h1, _, h3⟩ | ⟨rfl, rfl⟩
    · rw [hlt m h1] at hg; exact hR.own m X h3 g hg
    · rw [upd_self] at hg
      rcases hF g hg with h | h
      · exact .inl (Nat.le_trans hR.fr.size h.1)
      · exact hR.own n b0 hB g h
/-- A block has handed a part of its memory over into a new one. -/
theorem Rl.split (hR : Rl w0 B hd S a w val) {n : Nat} {b0 b1 b2 : Blk} (hB : S.H[n]? = some (some b0)) {d1 d2 : Bd} (hv : d1.v = (val n).v)
    (hsz : w.heap.size ≤ w1.heap.size) (ho : w1.os = w.os) (htp : w1.tape = w.tape) (hout : w1.output = w.output) (hh : ∀ k, k < w.heap.size → k ∉ (val n).F → w1.heap[k]? = w.heap[k]?)
    (hF1 : ∀ g ∈ d1.F, g ∈ (val n).F) (hF2 : ∀ g ∈ d2.F, (w.heap.size ≤ g ∧ g < w1.heap.size) ∨ g ∈ (val n).F) (hap : ∀ g ∈ d1.F, g ∉ d2.F)
    (hB1 : ∀ val' H' N', (∀ g, okF S.H val g → g < w.heap.size → okF H' val' g ∧ w1.heap[g]? = w.heap[g]?) → BRel (okF H' val') w1 N' val' d1 b1)
    (hB2 : ∀ val' H' N', (∀ g, okF S.H val g → g < w.heap.size → okF H' val' g ∧ w1.heap[g]? = w.heap[g]?) → BRel (okF H' val') w1 N' val' d2 b2) :
    Rl w0 B hd { S with tm := scrubL n false S.tm, H := (scrubH n false S.H).set n (some b1) ++ [some b2] } a w1 (upd (upd val n d1) S.H.length d2) := by
  have hnl := lt_of_some hB
  have hlen : ((scrubH n false S.H).set n (some b1) ++ [some b2]).length = S.H.length + 1 := by simp [scrubH_len]
  have hlt : ∀ m, m < S.H.length → m ≠ n → upd (upd val n d1) S.H.length d2 m = val m := fun m hm hmn => by rw [upd_ne _ _ (by omega), upd_ne _ _ hmn]
  have hn1 : upd (upd val n d1) S.H.length d2 n = d1 := by rw [upd_ne _ _ (by omega), upd_self]
  have hn2 : upd (upd val n d1) S.H.length d2 S.H.length = d2 := upd_self _ _ _
  have get : ∀ {m : Nat} {X : Blk}, ((scrubH n false S.H).set n (some b1) ++ [some b2])[m]? = some (some X) → (m < S.H.length ∧ m ≠ n ∧ ∃ Y, S.H[m]? = some (some Y) ∧ X = scrubBlk n false Y) ∨ (m = n ∧ X = b1) ∨ (m = S.H.length ∧ X = b2) := fun {m X} h => by
    rcases get_app h with ⟨h1, h2⟩ | ⟨h1, h2⟩
    · rcases get_set h2 with ⟨h3, h4⟩ | ⟨h3, h4⟩
      · cases h4; exact .inr (.inl ⟨h3, rfl⟩)
      · obtain ⟨Y, h5, h6⟩ := scrubH_get h4
        exact .inl ⟨lt_of_some h5, h3, Y, h5, h6⟩
    · exact .inr (.inr ⟨by simpa [scrubH_len] using h1, h2⟩)
  generalize hH' : (scrubH n false S.H).set n (some b1) ++ [some b2] = H' at hlen get ⊢
  generalize hval' : upd (upd val n d1) S.H.length d2 = val' at hlt hn1 hn2 ⊢
  have hok : ∀ g, okF S.H val g → g < w.heap.size → okF H' val' g ∧ w1.heap[g]? = w.heap[g]? := fun g hk hl => by
    refine ⟨fun m X hX hg => ?_, hh g hl (hk n b0 hB)⟩
    rcases get hX with ⟨h1, h1', Y, h3, _⟩ | ⟨h1, _⟩ | ⟨h1, _⟩
    · rw [hlt m h1 h1'] at hg; exact hk m Y h3 hg
    · rw [h1, hn1] at hg; exact hk n b0 hB (hF1 g hg)
    · rw [h1, hn2] at hg
      rcases hF2 g hg with h | h
      · omega
      · exact hk n b0 hB h
  have K : Keep (okF S.H val) (okF H' val') w w1 S.H.length H'.length val val' n false := by
    refine ⟨hsz, hok, by omega, fun m hm h => ?_, fun m hm h => ?_⟩
    · by_cases hmn : m = n
      · rw [hmn, hn1]; exact hv
      · rw [hlt m hm hmn]
    · rw [hlt m hm (by simpa using h)]
  have away1 : ∀ {m : Nat} {Y : Blk} {g : Nat}, m ≠ n → S.H[m]? = some (some Y) → g ∈ (val m).F → g ∉ d1.F := fun {m Y g} h1 h3 hg hdF => hR.heap.apart m n Y b0 h1 h3 hB g hg (hF1 g hdF)
  have away2 : ∀ {m : Nat} {Y : Blk} {g : Nat}, m ≠ n → S.H[m]? = some (some Y) → g ∈ (val m).F → g ∉ d2.F := fun {m Y g} h1 h3 hg hdF => by
    rcases hF2 g hdF with h | h
    · have := hR.heap.lt m Y h3 g hg; omega
    · exact hR.heap.apart m n Y b0 h1 h3 hB g hg h
  refine ⟨⟨ho.trans hR.fr.os, htp.trans hR.fr.tape, hout.trans hR.fr.output, by have := hR.fr.size; omega, fun g hg hgB => ?_⟩, by simp [scrubL_len, hR.len], hR.defers, fun t => ?_, ⟨fun m X hX => ?_, fun m X hX g hg => ?_, fun m k X Y hmk hX hY g hg hg' => ?_⟩, fun m X hX g hg => ?_, fun m hm => ?_, by have := hR.kle; simp only [hlen]; omega⟩
  · have := hR.fr.size
    rw [hh g (by omega) fun hgF => ?_]
    · exact hR.fr.same g hg hgB
    · rcases hR.own n b0 hB g hgF with h | h
      · omega
      · exact hgB h
  · have h := (hR.tmps t).scrub K
    have e : (scrubL n false S.tm).getD t .undef = scrub n false (S.tm.getD t .undef) := by
      rw [List.getD_eq_getElem?_getD, List.getD_eq_getElem?_getD, scrubL_get]
      cases S.tm[t]? <;> simp [scrub]
    rw [e]
    exact h
  · rcases get hX with ⟨h1, h1', Y, h3, rfl⟩ | ⟨h1, rfl⟩ | ⟨h1, rfl⟩
    · rw [hlt m h1 h1']
      exact (hR.heap.blk m Y h3).scrubM K fun g hg => hh g (hR.heap.lt m Y h3 g hg) fun e => hR.heap.apart m n Y b0 h1' h3 hB g hg e
    · rw [h1, hn1]; exact hB1 _ _ _ hok
    · rw [h1, hn2]; exact hB2 _ _ _ hok
  · rcases get hX with ⟨h1, h1', Y, h3, rfl⟩ | ⟨h1, rfl⟩ | ⟨h1, rfl⟩
    · rw [hlt m h1 h1'] at hg; have := hR.heap.lt m Y h3 g hg; omega
    · rw [h1, hn1] at hg; have := hR.heap.lt n b0 hB g (hF1 g hg); omega
    · rw [h1, hn2] at hg
      rcases hF2 g hg with h | h
      · exact h.2
      · have := hR.heap.lt n b0 hB g h; omega
  · rcases get hX with ⟨h1, h1', Y1, h3, rfl⟩ | ⟨h1, rfl⟩ | ⟨h1, rfl⟩ <;> rcases get hY with ⟨k1, k1', Y2, k3, rfl⟩ | ⟨k1, rfl⟩ | ⟨k1, rfl⟩
    · rw [hlt m h1 h1'] at hg; rw [hlt k k1 k1'] at hg'; exact hR.heap.apart m k Y1 Y2 hmk h3 k3 g hg hg'
    · rw [hlt m h1 h1'] at hg; rw [k1, hn1] at hg'; exact away1 h1' h3 hg hg'
    · rw [hlt m h1 h1'] at hg; rw [k1, hn2] at hg'; exact away2 h1' h3 hg hg'
    · rw [h1, hn1] at hg; rw [hlt k k1 k1'] at hg'; exact away1 k1' k3 hg' hg
    · exact hmk (h1.trans k1.symm)
    · rw [h1, hn1] at hg; rw [k1, hn2] at hg'; exact hap g hg hg'
    · rw [h1, hn2] at hg; rw [hlt k k1 k1'] at hg'; exact away2 k1' k3 hg' hg
    · rw [h1, hn2] at hg; rw [k1, hn1] at hg'; exact hap g hg' hg
    · exact hmk (h1.trans k1.symm)
  · rcases get hX with ⟨h1, h1', Y, h3, rfl⟩ | ⟨h1, rfl⟩ | ⟨h1, rfl⟩
    · rw [hlt m h1 h1'] at hg; exact hR.own m Y h3 g hg
    · rw [h1, hn1] at hg; exact hR.own n b0 hB g (hF1 g hg)
    · rw [h1, hn2] at hg
      rcases hF2 g hg with h | h
      · exact .inl (Nat.le_trans hR.fr.size h.1)
      · exact hR.own n b0 hB g h
  · have hml : m < S.H.length := Nat.lt_of_lt_of_le hm hR.kle
    by_cases hmn : m = n
    · rw [hmn, hn1, hv, ← hmn]; exact hR.kept m hm
    · rw [hlt m hml hmn]; exact hR.kept m hm
end
end Go.Proofs.Ytbkdmnohpjihgaa.M

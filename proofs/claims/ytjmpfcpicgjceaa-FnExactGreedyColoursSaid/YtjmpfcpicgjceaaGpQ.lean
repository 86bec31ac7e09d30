/- Greedy colours (pure): the least colour that no neighbour before has. -/
import Derived.Test.YtjmpfcpicgjceaaKpQ
import Derived.Test.YtjmpfcpicgjceaaPdQ
import Derived.Test.YtjmpfcpicgjceaaQc
namespace Go.Proofs.Ytjmpfcpicgjceaa.M
open Go.RowKit Abs
set_option linter.unusedSimpArgs false
set_option linter.unusedVariables false
set_option maxRecDepth 100000
set_option maxHeartbeats 4000000
def lc (p : Int → Bool) : Nat → Int → Int
  | 0, c => c
  | f + 1, c => if p c = true then lc p f (c + 1) else c
def LC (p : Int → Bool) : Int := lc p 9 0
theorem lc_congr {p q : Int → Bool} (h : ∀ c : Int, 0 ≤ c → p c = q c) : ∀ (f : Nat) (c : Int), 0 ≤ c → lc p f c = lc q f c
  | 0, c, _ => rfl
  | f + 1, c, h0 => by
    unfold lc
    rw [h c h0, lc_congr h f (c + 1) (by omega)]
theorem lc_next {p : Int → Bool} {c : Int} (h0 : 0 ≤ c) (h1 : c < 9) (hp : p c = true) : lc p (9 - c).toNat c = lc p (9 - (c + 1)).toNat (c + 1) := by
  rw [show (9 - c).toNat = (9 - (c + 1)).toNat + 1 by omega]
  conv => lhs; unfold lc
  rw [if_pos hp]
theorem lc_stop {p : Int → Bool} {c : Int} (h1 : c < 9) (hp : p c = false) : lc p (9 - c).toNat c = c := by
  rw [show (9 - c).toNat = (8 - c).toNat + 1 by omega]
  unfold lc
  rw [if_neg (by rw [hp]; decide)]
theorem lc_bound {p : Int → Bool} {k : Int} (hk : ∀ c : Int, 0 ≤ c → p c = true → c < k) : ∀ (f : Nat) (c : Int), 0 ≤ c → c ≤ k → c ≤ lc p f c ∧ lc p f c ≤ k
  | 0, c, _, h => ⟨Int.le_refl _, h⟩
  | f + 1, c, h0, h => by
    unfold lc
    split
    · rename_i hp
      have := hk c h0 hp
      obtain ⟨i1, i2⟩ := lc_bound hk f (c + 1) (by omega) (by omega)
      exact ⟨by omega, i2⟩
    · exact ⟨Int.le_refl _, h⟩
theorem cover_len : ∀ (n : Nat) (s : List Int), (∀ c : Int, 0 ≤ c → c < n → c ∈ s) → n ≤ s.length
  | 0, s, _ => Nat.zero_le _
  | n + 1, s, h => by
    have hm := h (n : Int) (by omega) (by omega)
    have h2 := cover_len n (s.erase (n : Int)) fun c c0 c1 => (List.mem_erase_of_ne (by omega)).2 (h c c0 (by omega))
    rw [List.length_erase_of_mem hm] at h2
    have : 0 < s.length := List.length_pos_of_mem hm
    omega
/-- The colours so far, as an array in the program, and as a row in the specification. -/
def pAt (l : List (Int × Int)) (od : List Int) : Nat → List Int
  | 0 => List.replicate 8 (-1)
  | k + 1 => setI (pAt l od k) (gi od k) (LC (amongB (pAt l od k) (rowV (gi od k) l)))
def usedL (l : List (Int × Int)) (od o : List Int) (x : Int) (j : Nat) : List Int := ((od.take j).filter fun v => nearB l v x).map (gi o)
def oAt (n : Int) (l : List (Int × Int)) (od : List Int) : Nat → List Int
  | 0 => List.replicate n.toNat 0
  | k + 1 => setI (oAt n l od k) (gi od k) (LC (hasB (usedL l od (oAt n l od k) (gi od k) k)))
structure GInv (n : Int) (l : List (Int × Int)) (od : List Int) (k : Nat) : Prop where
  lp : (pAt l od k).length = 8
  lo : ((oAt n l od k).length : Int) = n
  same : ∀ v : Int, v ∈ od.take k → gi (pAt l od k) v = gi (oAt n l od k) v ∧ 0 ≤ gi (oAt n l od k) v ∧ gi (oAt n l od k) v < k
  freeP : ∀ v : Int, 0 ≤ v → v < 8 → v ∉ od.take k → gi (pAt l od k) v = -1
  freeO : ∀ v : Int, 0 ≤ v → v < n → v ∉ od.take k → gi (oAt n l od k) v = 0
theorem gi_repl {m : Nat} {x v : Int} (h0 : 0 ≤ v) (h1 : v < m) : gi (List.replicate m x) v = x := by
  unfold gi
  rw [List.getD_eq_getElem?_getD, List.getElem?_replicate, if_pos (by omega)]
  rfl
theorem ginv_zero {n : Int} {l : List (Int × Int)} {od : List Int} (g0 : 0 ≤ n) : GInv n l od 0 := by
  refine ⟨by simp [pAt], by simp [oAt]; omega, fun v hv => by simp at hv, fun v v0 v1 _ => gi_repl v0 (by omega), fun v v0 v1 _ => gi_repl v0 (by omega)⟩
def ordOk (n : Int) (od : List Int) : Prop := (od.length : Int) = n ∧ ∀ c : Int, 0 ≤ c → c < n → c ∈ od
theorem ord_new {n : Int} {od : List Int} (h : ordOk n od) {k : Nat} (hk : k < od.length) : gi od k ∉ od.take k := fun hm => by
  have hx : od[k] = gi od k := by
    have := gi_get (l := od) (i := (k : Int)) (by omega) (by omega)
    simp only [Int.toNat_natCast] at this
    rw [List.getElem?_eq_getElem hk] at this
    exact Option.some.inj this
  have hc := cover_len n.toNat (od.take k ++ od.drop (k + 1)) fun c c0 c1 => by
    have hm2 := h.2 c c0 (by omega)
    rw [← List.take_append_drop k od, List.mem_append, List.drop_eq_getElem_cons hk, List.mem_cons, hx] at hm2
    rw [List.mem_append]
    rcases hm2 with h1 | h1 | h1
    · exact .inl h1
    · rw [h1]; exact .inl hm
    · exact .inr h1
  rw [List.length_append, List.length_take, List.length_drop] at hc
  have := h.1
  omega
theorem among_used {n : Int} {l : List (Int × Int)} {od : List Int} {k : Nat} (g1 : n ≤ 8) (g2 : ∀ e ∈ l, 0 ≤ e.1 ∧ e.1 < e.2 ∧ e.2 < n) (hI : GInv n l od k) {x c : Int} (c0 : 0 ≤ c) : amongB (pAt l od k) (rowV x l) c = hasB (usedL l od (oAt n l od k) x k) c := by
  rw [Bool.eq_iff_iff, hasB_iff]
  unfold amongB usedL
  rw [List.any_eq_true, List.mem_map]
  constructor
  · rintro ⟨v, hv, hq⟩
    simp only [decide_eq_true_eq] at hq
    have hr := row_in (v := x) g1 g2 v hv
    by_cases hm : v ∈ od.take k
    · refine ⟨v, List.mem_filter.2 ⟨hm, ?_⟩, by rw [← (hI.same v hm).1, hq]⟩
      rw [← row_near fun e he => (g2 e he).2.1]
      exact hasB_iff.2 hv
    · have := hI.freeP v hr.1 hr.2 hm
      omega
  · rintro ⟨v, hv, hq⟩
    obtain ⟨hm, hn⟩ := List.mem_filter.1 hv
    rw [← row_near fun e he => (g2 e he).2.1, hasB_iff] at hn
    exact ⟨v, hn, by rw [(hI.same v hm).1, hq]; simp⟩
theorem among_lt {n : Int} {l : List (Int × Int)} {od : List Int} {k : Nat} (g1 : n ≤ 8) (g2 : ∀ e ∈ l, 0 ≤ e.1 ∧ e.1 < e.2 ∧ e.2 < n) (hI : GInv n l od k) {x c : Int} (c0 : 0 ≤ c) (h : amongB (pAt l od k) (rowV x l) c = true) : c < k := by
  rw [among_used g1 g2 hI c0, hasB_iff] at h
  unfold usedL at h
  obtain ⟨v, hv, hq⟩ := List.mem_map.1 h
  have := (hI.same v (List.mem_filter.1 hv).1).2.2
  omega
theorem ginv_next {n : Int} {l : List (Int × Int)} {od : List Int} {k : Nat} (g1 : n ≤ 8) (g2 : ∀ e ∈ l, 0 ≤ e.1 ∧ e.1 < e.2 ∧ e.2 < n) (ho : ordOk n od) (hr : ∀ v ∈ od, 0 ≤ v ∧ v < n) (hk : k < od.length) (hI : GInv n l od k) : GInv n l od (k + 1) := by
  have hx := gi_mem (l := od) (i := (k : Int)) (by omega) (by omega)
  obtain ⟨x0, x1⟩ := hr _ hx
  have hnew := ord_new ho hk
  have hL : LC (amongB (pAt l od k) (rowV (gi od k) l)) = LC (hasB (usedL l od (oAt n l od k) (gi od k) k)) := lc_congr (fun c c0 => among_used g1 g2 hI c0) 9 0 (by omega)
  have hb := lc_bound (p := amongB (pAt l od k) (rowV (gi od k) l)) (k := (k : Int)) (fun c c0 h => among_lt g1 g2 hI c0 h) 9 0 (by omega) (by omega)
  have ht : od.take (k + 1) = od.take k ++ [gi od k] := by
    have := take_gi (l := od) (i := (k : Int)) (by omega) (by omega)
    rwa [show ((k : Int) + 1).toNat = k + 1 by omega, Int.toNat_natCast] at this
  have eP : ∀ v : Int, 0 ≤ v → gi (pAt l od (k + 1)) v = if v = gi od k then LC (amongB (pAt l od k) (rowV (gi od k) l)) else gi (pAt l od k) v := fun v v0 => by
    show gi (setI _ _ _) v = _
    rw [gi_set, hI.lp]
    by_cases e : v = gi od k
    · rw [if_pos e, if_pos ⟨by rw [e], by omega⟩]
    · rw [if_neg e, if_neg (by omega)]
  have eO : ∀ v : Int, 0 ≤ v → gi (oAt n l od (k + 1)) v = if v = gi od k then LC (hasB (usedL l od (oAt n l od k) (gi od k) k)) else gi (oAt n l od k) v := fun v v0 => by
    have := hI.lo
    show gi (setI _ _ _) v = _
    rw [gi_set]
    by_cases e : v = gi od k
    · rw [if_pos e, if_pos ⟨by rw [e], by omega⟩]
    · rw [if_neg e, if_neg (by omega)]
  refine ⟨?_, ?_, fun v hv => ?_, fun v v0 v1 hv => ?_, fun v v0 v1 hv => ?_⟩
  · show (setI _ _ _).length = 8
    rw [setI_len, hI.lp]
  · show ((setI _ _ _).length : Int) = n
    rw [setI_len, hI.lo]
  · rw [ht, List.mem_append, List.mem_singleton] at hv
    have hv0 : 0 ≤ v := by
      rcases hv with h | h
      · exact (hr v (List.mem_of_mem_take h)).1
      · rw [h]; exact x0
    rw [eP v hv0, eO v hv0]
    by_cases e : v = gi od k
    · rw [if_pos e, if_pos e, hL]
      unfold LC at hL ⊢
      omega
    · rw [if_neg e, if_neg e]
      have := hI.same v (hv.resolve_right e)
      omega
  · rw [ht, List.mem_append, List.mem_singleton] at hv
    rw [eP v v0, if_neg fun e => hv (.inr e)]
    exact hI.freeP v v0 v1 fun e => hv (.inl e)
  · rw [ht, List.mem_append, List.mem_singleton] at hv
    rw [eO v v0, if_neg fun e => hv (.inr e)]
    exact hI.freeO v v0 v1 fun e => hv (.inl e)
theorem ginv_all {n : Int} {l : List (Int × Int)} {od : List Int} (g0 : 0 ≤ n) (g1 : n ≤ 8) (g2 : ∀ e ∈ l, 0 ≤ e.1 ∧ e.1 < e.2 ∧ e.2 < n) (ho : ordOk n od) (hr : ∀ v ∈ od, 0 ≤ v ∧ v < n) : ∀ k : Nat, k ≤ od.length → GInv n l od k
  | 0, _ => ginv_zero g0
  | k + 1, h => ginv_next g1 g2 ho hr (by omega) (ginv_all g0 g1 g2 ho hr k (by omega))
end Go.Proofs.Ytjmpfcpicgjceaa.M

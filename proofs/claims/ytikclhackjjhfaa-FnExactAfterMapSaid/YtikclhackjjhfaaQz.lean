/- Ua, Ue, Uf, Ug, Uh, Ui, Uj, in one text. -/
import Derived.Test.YtikclhackjjhfaaOlQ
import Derived.Test.YtikclhackjjhfaaTaQ
import Derived.Test.YtikclhackjjhfaaQe
import Derived.Test.YtikclhackjjhfaaSiQ
import Derived.Test.YtikclhackjjhfaaCtQ
import Derived.Test.YtikclhackjjhfaaRgQ
import Derived.Test.YtikclhackjjhfaaJnQ
import Derived.Test.YtikclhackjjhfaaQg
/- Folding, pure. -/
namespace Go.Proofs.Ytikclhackjjhfaa.M
open Go.RowKit Abs
set_option linter.unusedSimpArgs false
set_option linter.unusedVariables false
set_option maxRecDepth 100000
set_option maxHeartbeats 4000000
def takB (l : List (Int × Int)) (L : List Int) (x y : Int) : Bool := nearB l x y && !L.any (fun z => (!decide (z = y) && nearB l z x) && !nearB l z y)
def covX (l : List (Int × Int)) (L : List Int) (x y : Int) : Bool := !L.any (fun z => ((decide (z = x) || nearB l x z) && !decide (z = y)) && !nearB l y z)
theorem hit_turn (a b : Int) (e : Int × Int) : hit a b e = hit b a e := by unfold hit; rw [Bool.or_comm]
theorem near_turn (l : List (Int × Int)) (a b : Int) : nearB l a b = nearB l b a := by
  unfold nearB
  congr 1
  funext e
  exact hit_turn a b e
theorem near_self {n : Int} {l : List (Int × Int)} (hg : graphOk n l = true) (x : Int) : nearB l x x = false := by
  obtain ⟨_, he, _⟩ := graph_edges hg
  unfold nearB
  rw [List.any_eq_false]
  intro e hm
  have := he e hm
  simp only [hit, Bool.or_eq_true, Bool.and_eq_true, beq_iff_eq]
  omega
theorem cov_tak {n : Int} {l : List (Int × Int)} {L : List Int} {x y : Int} (hg : graphOk n l = true) (hx : x ∈ L) : (!decide (x = y) && covX l L x y) = takB l L x y := by
  by_cases hxy : x = y
  · subst hxy
    unfold takB
    rw [near_self hg]
    simp
  · rw [Bool.eq_iff_iff]
    unfold covX takB
    simp only [Bool.and_eq_true, Bool.not_eq_true', List.any_eq_false, decide_eq_false_iff_not, Bool.or_eq_true, decide_eq_true_eq, not_and, Bool.not_eq_false]
    constructor
    · rintro ⟨_, h⟩
      have hxx : nearB l y x = true := h x hx ⟨.inl rfl, hxy⟩
      refine ⟨by rw [near_turn]; exact hxx, fun z hz h1 => ?_⟩
      rw [near_turn]
      exact h z hz ⟨.inr (by rw [near_turn]; exact h1.2), h1.1⟩
    · rintro ⟨h1, h2⟩
      refine ⟨hxy, fun z hz h3 => ?_⟩
      obtain ⟨h3, h4⟩ := h3
      rcases h3 with e | h3
      · rw [e, near_turn]; exact h1
      · rw [near_turn]
        exact h2 z hz ⟨h4, by rw [near_turn]; exact h3⟩
/-- The first pair, row by row. -/
def rowO (P : Int → Int → Bool) (L : List Int) (x : Int) : Option (Int × Int) := (L.find? (P x)).map fun y => (x, y)
def rOut (P : Int → Int → Bool) (L : List Int) (i : Int) : Option (Int × Int) := (L.drop i.toNat).findSome? (rowO P L)
def rIn (P : Int → Int → Bool) (L : List Int) (i k : Int) : Option (Int × Int) := ((L.drop k.toNat).find? (P (gi L i))).map (fun y => (gi L i, y)) |>.or (rOut P L (i + 1))
theorem drop_gi {L : List Int} {k : Int} (h0 : 0 ≤ k) (h1 : k < (L.length : Int)) : L.drop k.toNat = gi L k :: L.drop (k + 1).toNat := by
  rw [List.drop_eq_getElem_cons (by omega), show (k + 1).toNat = k.toNat + 1 by omega]
  congr 1
  unfold gi
  rw [List.getD_eq_getElem?_getD, List.getElem?_eq_getElem (by omega)]
  rfl
theorem rOut_in {P : Int → Int → Bool} {L : List Int} {i : Int} (h0 : 0 ≤ i) (h1 : i < (L.length : Int)) : rOut P L i = rIn P L i 0 := by
  unfold rOut rIn
  rw [drop_gi h0 h1, List.findSome?_cons]
  rw [show L.drop (Int.toNat 0) = L from rfl]
  unfold rowO rOut
  cases L.find? (P (gi L i)) <;> rfl
theorem rOut_end {P : Int → Int → Bool} {L : List Int} {i : Int} (h1 : ¬ i < (L.length : Int)) : rOut P L i = none := by
  unfold rOut
  rw [List.drop_eq_nil_of_le (by omega)]
  rfl
theorem rIn_hit {P : Int → Int → Bool} {L : List Int} {i k : Int} (h0 : 0 ≤ k) (h1 : k < (L.length : Int)) (h : P (gi L i) (gi L k) = true) : rIn P L i k = some (gi L i, gi L k) := by
  unfold rIn
  rw [drop_gi h0 h1, List.find?_cons, h]
  rfl
theorem rIn_miss {P : Int → Int → Bool} {L : List Int} {i k : Int} (h0 : 0 ≤ k) (h1 : k < (L.length : Int)) (h : P (gi L i) (gi L k) = false) : rIn P L i k = rIn P L i (k + 1) := by
  unfold rIn
  rw [drop_gi h0 h1, List.find?_cons, h]
theorem rIn_end {P : Int → Int → Bool} {L : List Int} {i k : Int} (h1 : ¬ k < (L.length : Int)) : rIn P L i k = rOut P L (i + 1) := by
  unfold rIn
  rw [List.drop_eq_nil_of_le (by omega)]
  rfl
def stpF (l : List (Int × Int)) (L : List Int) : Option (Int × Int) := rOut (takB l L) L 0
theorem stp_mem {l : List (Int × Int)} {L : List Int} {p : Int × Int} (h : stpF l L = some p) : p.1 ∈ L ∧ p.2 ∈ L := by
  unfold stpF rOut at h
  obtain ⟨x, hx, hf⟩ := List.exists_of_findSome?_eq_some h
  unfold rowO at hf
  rw [Option.map_eq_some_iff] at hf
  obtain ⟨y, h1, h2⟩ := hf
  subst h2
  exact ⟨List.mem_of_mem_drop hx, List.mem_of_find?_eq_some h1⟩
def foX (l : List (Int × Int)) (L : List Int) : Int := match stpF l L with | some p => p.1 | none => 0
def foY (l : List (Int × Int)) (L : List Int) : Int := match stpF l L with | some p => p.2 | none => 0
def foB (l : List (Int × Int)) (L : List Int) : Bool := (stpF l L).isSome
/-- All pairs of folding. -/
def foldR (l : List (Int × Int)) : Nat → List Int → List (Int × Int)
  | 0, _ => []
  | k + 1, L => if foB l L = true then (foX l L, foY l L) :: foldR l k (onlyL L [foX l L]) else []
theorem fo_mem {l : List (Int × Int)} {L : List Int} (h : foB l L = true) : foX l L ∈ L ∧ foY l L ∈ L := by
  unfold foB at h
  obtain ⟨p, hp⟩ := Option.isSome_iff_exists.1 h
  have := stp_mem hp
  unfold foX foY
  rw [hp]
  exact this
theorem only_less {L : List Int} {x : Int} (h : x ∈ L) : (onlyL L [x]).length < L.length := by
  unfold onlyL
  refine List.length_filter_lt_length_iff_exists.2 ⟨x, h, ?_⟩
  rw [show hasB [x] x = true by rw [hasB_iff]; simp]
  decide
theorem fold_len (l : List (Int × Int)) : ∀ (k : Nat) (L : List Int), (foldR l k L).length ≤ k
  | 0, _ => Nat.le_refl _
  | k + 1, L => by
    rw [foldR]
    split
    · rw [List.length_cons]
      have := fold_len l k (onlyL L [foX l L])
      omega
    · simp
theorem fold_more (l : List (Int × Int)) : ∀ (k j : Nat) (L : List Int), L.length ≤ k → L.length ≤ j → foldR l k L = foldR l j L
  | 0, j, L, h, _ => by
    have e : L = [] := List.length_eq_zero_iff.1 (by omega)
    subst e
    cases j with
    | zero => rfl
    | succ j =>
      rw [foldR, foldR, if_neg]
      intro hb
      exact absurd (fo_mem hb).1 (by simp)
  | k + 1, 0, L, _, h => by
    have e : L = [] := List.length_eq_zero_iff.1 (by omega)
    subst e
    rw [foldR, foldR, if_neg]
    intro hb
    exact absurd (fo_mem hb).1 (by simp)
  | k + 1, j + 1, L, h, h2 => by
    rw [foldR, foldR]
    by_cases hb : foB l L = true
    · rw [if_pos hb, if_pos hb]
      have := only_less (fo_mem hb).1
      rw [fold_more l k j _ (by omega) (by omega)]
    · rw [if_neg hb, if_neg hb]
def foldsL (n : Int) (l : List (Int × Int)) : List (Int × Int) := foldR l (nodesL n).length (nodesL n)
/-- What holds between two pairs: the pairs so far and what is left. -/
structure FoI (n : Int) (l : List (Int × Int)) (s : List (Int × Int) × List Int) : Prop where
  asc : s.2.Pairwise (· < ·)
  rng : ∀ x ∈ s.2, 0 ≤ x ∧ x < n
  len : s.1.length + s.2.length ≤ 8
  res : s.1 ++ foldR l s.2.length s.2 = foldsL n l
def foN (l : List (Int × Int)) (s : List (Int × Int) × List Int) : List (Int × Int) × List Int := (s.1 ++ [(foX l s.2, foY l s.2)], onlyL s.2 [foX l s.2])
theorem fo_next {n : Int} {l : List (Int × Int)} {s : List (Int × Int) × List Int} (h : FoI n l s) (hb : foB l s.2 = true) : FoI n l (foN l s) ∧ (foN l s).2.length < s.2.length := by
  have h1 := only_less (fo_mem hb).1
  refine ⟨⟨h.asc.filter _, fun x hx => h.rng x (List.mem_filter.1 hx).1, ?_, ?_⟩, h1⟩
  · show (s.1 ++ [_]).length + (onlyL s.2 [foX l s.2]).length ≤ 8
    rw [List.length_append]
    have := h.len
    simp only [List.length_cons, List.length_nil]
    omega
  · show (s.1 ++ [_]) ++ foldR l (onlyL s.2 [foX l s.2]).length (onlyL s.2 [foX l s.2]) = _
    rw [List.append_assoc, ← h.res]
    congr 1
    have e : foldR l s.2.length s.2 = foldR l (s.2.length - 1 + 1) s.2 := by rw [show s.2.length - 1 + 1 = s.2.length by omega]
    rw [e, foldR, if_pos hb, List.singleton_append, fold_more l (s.2.length - 1) (onlyL s.2 [foX l s.2]).length _ (by omega) (Nat.le_refl _)]
theorem fo_end {n : Int} {l : List (Int × Int)} {s : List (Int × Int) × List Int} (h : FoI n l s) (hb : foB l s.2 = false) : s.1 = foldsL n l := by
  rw [← h.res]
  have e : foldR l s.2.length s.2 = [] := by
    cases hl : s.2.length with
    | zero => rfl
    | succ k => rw [foldR, hb, if_neg (by decide)]
  rw [e, List.append_nil]
theorem fo_start {n : Int} {l : List (Int × Int)} (h0 : 0 ≤ n) (h8 : n ≤ 8) : FoI n l ([], nodesL n) := by
  have hlen : (nodesL n).length ≤ 8 := by
    unfold nodesL pref
    refine Nat.le_trans (List.length_filter_le _ _) ?_
    rw [List.length_map, List.length_range]
    omega
  refine ⟨?_, ?_, ?_, rfl⟩
  · show (nodesL n).Pairwise _
    unfold nodesL pref
    refine List.Pairwise.filter _ ?_
    rw [List.pairwise_map]
    refine List.Pairwise.imp ?_ List.pairwise_lt_range
    intro a b hab
    exact Int.ofNat_lt.2 hab
  · intro x hx
    have hx2 : x ∈ nodesL n := hx
    have := pref_mem.1 hx2
    omega
  · show 0 + (nodesL n).length ≤ 8
    omega
theorem folds_len {n : Int} {l : List (Int × Int)} (h0 : 0 ≤ n) (h8 : n ≤ 8) : (foldsL n l).length ≤ 8 := by
  have h := (fo_start (l := l) h0 h8).len
  have := fold_len l (nodesL n).length (nodesL n)
  unfold foldsL
  have : ([] : List (Int × Int)).length + (nodesL n).length ≤ 8 := h
  simp only [List.length_nil] at this
  omega
end Go.Proofs.Ytikclhackjjhfaa.M
/- Maps between Graphs, pure. -/
namespace Go.Proofs.Ytikclhackjjhfaa.M
open Go.RowKit Abs
set_option linter.unusedSimpArgs false
set_option linter.unusedVariables false
set_option maxRecDepth 100000
set_option maxHeartbeats 4000000
def allTo (p : Int → Bool) (k : Nat) : Bool := (List.range k).all fun j => p (j : Int)
theorem allTo_next (p : Int → Bool) (k : Nat) : allTo p (k + 1) = (allTo p k && p (k : Int)) := by
  unfold allTo
  rw [List.range_succ, List.all_append]
  simp
theorem allTo_bad {p : Int → Bool} {k : Int} {n : Nat} (h0 : 0 ≤ k) (h1 : k < (n : Int)) (h : p k = false) : allTo p n = false := by
  unfold allTo
  rw [List.all_eq_false]
  refine ⟨k.toNat, List.mem_range.2 (by omega), ?_⟩
  rw [show ((k.toNat : Nat) : Int) = k by omega, h]
  decide
theorem allTo_iff {p : Int → Bool} {n : Nat} : allTo p n = true ↔ ∀ k : Int, 0 ≤ k → k < (n : Int) → p k = true := by
  unfold allTo
  rw [List.all_eq_true]
  constructor
  · intro h k h0 h1
    have := h k.toNat (List.mem_range.2 (by omega))
    rwa [show ((k.toNat : Nat) : Int) = k by omega] at this
  · intro h j hj
    exact h j (by omega) (by have := List.mem_range.1 hj; omega)
theorem row_has {v w : Int} {m : List (Int × Int)} (h : ∀ e ∈ m, 0 ≤ e.1 ∧ e.1 < e.2) : hasB (rowV v m) w = nearB m v w := by
  rw [Bool.eq_iff_iff, hasB_iff]
  unfold rowV nearB
  rw [List.mem_filterMap, List.any_eq_true]
  constructor
  · rintro ⟨e, he, h1⟩
    refine ⟨e, he, ?_⟩
    unfold hit
    simp only [Bool.or_eq_true, Bool.and_eq_true, beq_iff_eq]
    split at h1
    · rename_i h2
      have := Option.some.inj h1
      omega
    · split at h1
      · rename_i h2 h3
        have := Option.some.inj h1
        omega
      · exact absurd h1 (by simp)
  · rintro ⟨e, he, h1⟩
    refine ⟨e, he, ?_⟩
    have h2 := h e he
    unfold hit at h1
    simp only [Bool.or_eq_true, Bool.and_eq_true, beq_iff_eq] at h1
    rcases h1 with ⟨a, b⟩ | ⟨a, b⟩
    · rw [if_neg (by omega), if_pos a, b]
    · rw [if_pos b, a]
/-- The first k rows with their own places behind them. -/
def lazK (R : List (List Int)) : Nat → List (List Int)
  | 0 => R
  | k + 1 => setI (lazK R k) (k : Int) (getR .int (lazK R k) (k : Int) ++ [(k : Int)])
theorem lazK_len (R : List (List Int)) : ∀ k, (lazK R k).length = R.length
  | 0 => rfl
  | k + 1 => by rw [lazK]; unfold setI; rw [List.length_set]; exact lazK_len R k
theorem lazK_row (R : List (List Int)) {v : Int} (v0 : 0 ≤ v) (v1 : v < (R.length : Int)) : ∀ k : Nat, k ≤ R.length → getR .int (lazK R k) v = if v < (k : Int) then getR .int R v ++ [v] else getR .int R v
  | 0, _ => by rw [if_neg (by omega)]; rfl
  | k + 1, hk => by
    rw [lazK, get_setI (by omega) (by rw [lazK_len]; omega) v0]
    by_cases h : v = (k : Int)
    · subst h
      rw [if_pos rfl, if_pos (by omega), lazK_row R v0 v1 k (by omega), if_neg (by omega)]
    · rw [if_neg h, lazK_row R v0 v1 k (by omega)]
      by_cases h2 : v < (k : Int)
      · rw [if_pos h2, if_pos (by omega)]
      · rw [if_neg h2, if_neg (by omega)]
theorem lazK_next (R : List (List Int)) {k : Int} (k0 : 0 ≤ k) : lazK R (k + 1).toNat = setI (lazK R k.toNat) k (getR .int (lazK R k.toNat) k ++ [k]) := by
  rw [show (k + 1).toNat = k.toNat + 1 by omega, lazK, show ((k.toNat : Nat) : Int) = k by omega]
def meetR (n : Int) (l : List (Int × Int)) (lz : Bool) : List (List Int) := if lz = true then lazK (nearR l n) (nearR l n).length else nearR l n
theorem meetR_len {n : Int} {l : List (Int × Int)} (lz : Bool) : (meetR n l lz).length = n.toNat := by
  unfold meetR
  split
  · rw [lazK_len, nearR_len]
  · rw [nearR_len]
theorem meet_row {n : Int} {l : List (Int × Int)} (lz : Bool) (hg : graphOk n l = true) {v : Int} (v0 : 0 ≤ v) (v1 : v < n) : getR .int (meetR n l lz) v = rowV v l ++ (if lz = true then [v] else []) := by
  have he := (graph_edges hg).2.1
  unfold meetR
  split
  · rw [lazK_row _ v0 (by rw [nearR_len]; omega) _ (Nat.le_refl _), nearR_len, if_pos (by omega), nearR_row v0 he]
  · rw [nearR_row v0 he, List.append_nil]
theorem meet_has {n : Int} {l : List (Int × Int)} (lz : Bool) (hg : graphOk n l = true) {v w : Int} (v0 : 0 ≤ v) (v1 : v < n) : hasB (getR .int (meetR n l lz) v) w = (nearB l v w || (lz && decide (v = w))) := by
  have he := (graph_edges hg).2.1
  rw [meet_row lz hg v0 v1, ← row_has (fun e h => ⟨(he e h).1, (he e h).2.1⟩), Bool.eq_iff_iff]
  cases lz with
  | true =>
    rw [Bool.or_eq_true, hasB_iff, hasB_iff, if_pos rfl, List.mem_append, List.mem_singleton, Bool.true_and, decide_eq_true_eq]
    exact or_congr Iff.rfl eq_comm
  | false => simp only [hasB_iff, if_false, Bool.false_eq_true, List.append_nil, Bool.false_and, Bool.or_false]
/-- What the specification asks of a list. -/
def fitsB (lh : List (Int × Int)) (lz : Bool) (a b : Int) : Bool := nearB lh a b || (lz && decide (a = b))
def edgB (l lh : List (Int × Int)) (L : List Int) (lz : Bool) (i : Int) : Bool := fitsB lh lz (gi L (getI (.pr .int .int) l i).1) (gi L (getI (.pr .int .int) l i).2)
def rngB (nh : Int) (L : List Int) (k : Int) : Bool := decide (0 ≤ gi L k) && decide (gi L k ≤ nh - 1)
def mapB (n : Int) (l : List (Int × Int)) (nh : Int) (lh : List (Int × Int)) (L : List Int) (lz : Bool) : Bool := allTo (rngB nh L) L.length && (decide ((L.length : Int) = n) && allTo (edgB l lh L lz) l.length)
/-- What the program asks. -/
def clsF (M : List (List Int)) (L : List Int) (v : Int) (y : Int) : Bool := decide (y < (L.length : Int)) && !hasB (getR .int M v) (gi L y)
def fitsM (N M : List (List Int)) (L : List Int) (v : Int) : Bool := !(getR .int N (L.length : Int)).any (clsF M L v)
def okM (N M : List (List Int)) (L : List Int) (k : Int) : Bool := (decide (0 ≤ gi L k) && decide (gi L k < (M.length : Int))) && fitsM N M (L.take k.toNat) (gi L k)
def holM (N M : List (List Int)) (L : List Int) : Bool := decide ((L.length : Int) = (N.length : Int)) && allTo (okM N M L) L.length
theorem gi_takeM {L : List Int} {j k : Int} (j0 : 0 ≤ j) (h : j < k) (hk : k ≤ (L.length : Int)) : gi (L.take k.toNat) j = gi L j := by
  unfold gi
  rw [List.getD_eq_getElem?_getD, List.getElem?_take, if_pos (by omega), List.getD_eq_getElem?_getD]
theorem hol_map {n nh : Int} {l lh : List (Int × Int)} {L : List Int} {lz : Bool} (hg : graphOk n l = true) (hh : graphOk nh lh = true) : holM (nearR l n) (meetR nh lh lz) L = mapB n l nh lh L lz := by
  obtain ⟨⟨g0, g1⟩, he, _⟩ := graph_edges hg
  obtain ⟨⟨h0, h1⟩, hf, _⟩ := graph_edges hh
  unfold holM mapB
  rw [nearR_len, Bool.eq_iff_iff]
  simp only [Bool.and_eq_true, decide_eq_true_eq, allTo_iff]
  have hm : ((meetR nh lh lz).length : Int) = nh := by rw [meetR_len]; omega
  constructor
  · rintro ⟨hl, ho⟩
    have hr : ∀ k : Int, 0 ≤ k → k < (L.length : Int) → 0 ≤ gi L k ∧ gi L k < nh := fun k k0 k1 => by
      have := ho k k0 k1
      unfold okM at this
      rw [hm] at this
      simp only [Bool.and_eq_true, decide_eq_true_eq] at this
      exact this.1
    refine ⟨fun k k0 k1 => ?_, by omega, fun i i0 i1 => ?_⟩
    · have := hr k k0 k1
      unfold rngB
      simp only [Bool.and_eq_true, decide_eq_true_eq]
      omega
    · have hme : getI (.pr .int .int) l i ∈ l := List.mem_of_getElem? (getI_get (t := .pr .int .int) i0 i1)
      have e := he _ hme
      unfold edgB
      generalize hx : getI (.pr .int .int) l i = ed at *
      obtain ⟨a, b⟩ := ed
      simp only at e ⊢
      have hb := ho b (by omega) (by omega)
      unfold okM fitsM at hb
      simp only [Bool.and_eq_true, Bool.not_eq_true', List.any_eq_false] at hb
      have hlt : ((L.take b.toNat).length : Int) = b := by rw [List.length_take]; omega
      rw [hlt, nearR_row (by omega) he] at hb
      have ha : a ∈ rowV b l := by
        rw [← hasB_iff, row_has (fun e h => ⟨(he e h).1, (he e h).2.1⟩)]
        unfold nearB
        rw [List.any_eq_true]
        refine ⟨(a, b), hme, ?_⟩
        unfold hit
        simp
      have hc := hb.2 a ha
      unfold clsF at hc
      rw [hlt, decide_eq_true e.2.1, Bool.true_and, Bool.not_eq_true', Bool.not_eq_false, gi_takeM e.1 e.2.1 (by omega), meet_has lz hh (hr b (by omega) (by omega)).1 (hr b (by omega) (by omega)).2] at hc
      unfold fitsB
      rw [near_turn]
      rw [Bool.or_eq_true, Bool.and_eq_true, decide_eq_true_eq] at hc ⊢
      rcases hc with hc | hc
      · exact .inl hc
      · exact .inr ⟨hc.1, hc.2.symm⟩
  · rintro ⟨hr, hl, ho⟩
    have hr2 : ∀ k : Int, 0 ≤ k → k < (L.length : Int) → 0 ≤ gi L k ∧ gi L k < nh := fun k k0 k1 => by
      have := hr k k0 k1
      unfold rngB at this
      simp only [Bool.and_eq_true, decide_eq_true_eq] at this
      omega
    refine ⟨by omega, fun k k0 k1 => ?_⟩
    have hk := hr2 k k0 k1
    unfold okM fitsM
    rw [hm]
    simp only [Bool.and_eq_true, Bool.not_eq_true', List.any_eq_false, decide_eq_true_eq]
    refine ⟨hk, fun (y : Int) hy => ?_⟩
    have hlt : ((L.take k.toNat).length : Int) = k := by rw [List.length_take]; omega
    rw [hlt, nearR_row k0 he] at hy
    unfold clsF
    rw [hlt]
    by_cases hyk : y < k
    · have hn : nearB l k y = true := by
        rw [← row_has (fun e h => ⟨(he e h).1, (he e h).2.1⟩), hasB_iff]
        exact hy
      unfold nearB at hn
      rw [List.any_eq_true] at hn
      obtain ⟨e, hm1, hm2⟩ := hn
      have h2 := he e hm1
      unfold hit at hm2
      simp only [Bool.or_eq_true, Bool.and_eq_true, beq_iff_eq] at hm2
      have e1 : e.1 = y ∧ e.2 = k := by
        rcases hm2 with hm2 | hm2
        · omega
        · exact hm2
      obtain ⟨i, i1⟩ := List.getElem?_of_mem hm1
      have i2 : i < l.length := (List.getElem?_eq_some_iff.1 i1).1
      have h3 := ho (i : Int) (by omega) (by omega)
      unfold edgB at h3
      have i3 : getI (.pr .int .int) l (i : Int) = e := by
        have := getI_get (t := .pr .int .int) (l := l) (i := (i : Int)) (by omega) (by omega)
        rw [show ((i : Int)).toNat = i by omega, i1] at this
        exact (Option.some.inj this).symm
      rw [i3, e1.1, e1.2] at h3
      have h4 : hasB (getR .int (meetR nh lh lz) (gi L k)) (gi L y) = true := by
        rw [meet_has lz hh hk.1 hk.2]
        unfold fitsB at h3
        rw [near_turn]
        rw [Bool.or_eq_true, Bool.and_eq_true, decide_eq_true_eq] at h3 ⊢
        rcases h3 with h3 | h3
        · exact .inl h3
        · exact .inr ⟨h3.1, h3.2.symm⟩
      rw [gi_takeM (L := L) (show 0 ≤ y by omega) hyk (by omega), h4]
      simp
    · rw [decide_eq_false hyk]
      simp
end Go.Proofs.Ytikclhackjjhfaa.M
/- Maps between Graphs: the program's rule. -/
namespace Go.Proofs.Ytikclhackjjhfaa.M
open Go.RowKit Abs
set_option linter.unusedSimpArgs false
set_option linter.unusedVariables false
set_option maxRecDepth 100000
set_option maxHeartbeats 4000000
theorem notT {b : Bool} (h : (!b) = true) : b = false := by cases b <;> simp_all
theorem notF {b : Bool} (h : (!b) = false) : b = true := by cases b <;> simp_all
theorem Spec2.aggM {P : Program} {f : FuncId} {t : Ty} {x : Unit → t.den} {r : List AV} {pre : Hp} {res : List AV} {post : Hp} (h : Spec2 P f (.cells (cellsU t x) :: r) pre res post) : Spec2 P f (.agg t x :: r) pre res post := by
  obtain ⟨h1, h2, h3⟩ := h
  refine ⟨h1, h2, fun w val vs hH hv => h3 w val vs hH ?_⟩
  match vs, hv with
  | v :: vs, hv =>
    simp only [VRelL] at hv ⊢
    refine ⟨?_, hv.2⟩
    have hx := hv.1
    simp only [VRel] at hx ⊢
    obtain ⟨cs, e, hr⟩ := hx
    exact ⟨cs, e, rep_cellsU hr, hr.one⟩
theorem im_mapFits1 (N M : List (List Int)) (L : List Int) (v y : Int) (hL : L.length ≤ 1048576) (v0 : 0 ≤ v) (v1 : v < (M.length : Int)) (hM : ∀ k : Int, 0 ≤ k → k < (M.length : Int) → (getR .int M k).length ≤ 1048576) (y0 : 0 ≤ y) : Spec2 Try.prog 146 [.int fun _ => y, .ibox [.sl .int fun _ => L] 0, .ibox [.sl (.sl .int) fun _ => N, .sl (.sl .int) fun _ => M] 0, .ibox [.int fun _ => v] 0] [] [.bool fun _ => clsF M L v y] [] := by
  have e1 := go_contains (getR .int M v) (gi L y) (hM v v0 v1)
  have t1 : y < (L.length : Int) → (!hasB (getR .int M v) (gi L y)) = clsF M L v y := fun h => by unfold clsF; rw [decide_eq_true h]; rfl
  have t2 : ¬ y < (L.length : Int) → false = clsF M L v y := fun h => by unfold clsF; rw [decide_eq_false h]; rfl
  generalize clsF M L v y = r at *
  generalize hasB (getR .int M v) (gi L y) = q at *
  clear hM
  refine fnS [] [5] Try.func146 rfl (by decide) rfl (by decide) (by kernel_rfl) rfl (by simp [Try.ntmps146]) ?_
  cbv
  ((try simp only [IfP_iff, and_true, true_and, decide_eq_true_eq, decide_eq_false_iff_not]); (try simp only [natc, getI_gi, at2_0, at2_1]); (try dsimp only [Ty.den]); (try simp only [natc] at *); (repeat' (first | apply And.intro | intro _)))
  all_goals (repeat' (first | ((first | refine call_q e1 (by cbv) ?_ | refine call_pure e1 (by cbv) ?_); cbv; ((try simp only [IfP_iff, and_true, true_and, decide_eq_true_eq, decide_eq_false_iff_not]); (try simp only [natc, getI_gi, at2_0, at2_1]); (try dsimp only [Ty.den]); (try simp only [natc] at *); (repeat' (first | apply And.intro | intro _))))))
  all_goals (try (simp only [IfP_iff, EqU_iff, Obl_iff, and_true, true_and, inI_iff, decide_eq_true_eq, decide_eq_false_iff_not]; (try simp only [natc, getI_gi, at2_0, at2_1]); (try dsimp only [Ty.den]); try simp only [natc] at *))
  all_goals (try simp only [show getI (.sl .int) M v = getR .int M v from rfl] at *)
  all_goals ((repeat' (first | apply And.intro | intro _)) <;> first | omega | exact t1 (by assumption) | exact t2 (by assumption) | trace_state)
theorem im_mapFits (N M : List (List Int)) (L : List Int) (v : Int) (hL : (L.length : Int) < N.length) (hN : N.length ≤ 8) (v0 : 0 ≤ v) (v1 : v < (M.length : Int)) (hM : ∀ k : Int, 0 ≤ k → k < (M.length : Int) → (getR .int M k).length ≤ 1048576) (hy : (getR .int N (L.length : Int)).length ≤ 1048576 ∧ ∀ y ∈ getR .int N (L.length : Int), 0 ≤ y) : Spec2 Try.prog 108 [.cells [.sl (.sl .int) fun _ => N, .sl (.sl .int) fun _ => M], .sl .int fun _ => L, .int fun _ => v] [] [.bool fun _ => fitsM N M L v] [] := by
  have e2 := go_containsF 146 (fun _ => ofCaps [.ibox [.sl .int fun _ => L] 0, .ibox [.sl (.sl .int) fun _ => N, .sl (.sl .int) fun _ => M] 0, .ibox [.int fun _ => v] 0]) (clsF M L v) (getR .int N (L.length : Int)) hy.1 fun y my => ⟨_, rfl, fun _ => rfl, im_mapFits1 N M L v y (by omega) v0 v1 hM (hy.2 y my)⟩
  have t : fitsM N M L v = !(getR .int N (L.length : Int)).any (clsF M L v) := rfl
  generalize fitsM N M L v = r at *
  generalize (getR .int N (L.length : Int)).any (clsF M L v) = q at *
  clear hy hM
  refine fnS [] [6] Try.func108 rfl (by decide) rfl (by decide) (by kernel_rfl) rfl (by simp [Try.ntmps108]) ?_
  cbv
  ((try simp only [IfP_iff, and_true, true_and, decide_eq_true_eq, decide_eq_false_iff_not]); (try simp only [natc, getI_gi, at2_0, at2_1]); (try dsimp only [Ty.den]); (try simp only [natc] at *); (repeat' (first | apply And.intro | intro _)))
  all_goals (repeat' (first | ((first | refine call_q e2 (by cbv) ?_ | refine call_pure e2 (by cbv) ?_); cbv; ((try simp only [IfP_iff, and_true, true_and, decide_eq_true_eq, decide_eq_false_iff_not]); (try simp only [natc, getI_gi, at2_0, at2_1]); (try dsimp only [Ty.den]); (try simp only [natc] at *); (repeat' (first | apply And.intro | intro _))))))
  all_goals (try (simp only [IfP_iff, EqU_iff, Obl_iff, and_true, true_and, inI_iff, decide_eq_true_eq, decide_eq_false_iff_not]; (try simp only [natc, getI_gi, at2_0, at2_1]); (try dsimp only [Ty.den]); try simp only [natc] at *))
  all_goals ((repeat' (first | apply And.intro | intro _)) <;> first | omega | exact t.symm | trace_state)
theorem sub_takeM {L : List Int} {k : Int} (h0 : 0 ≤ k) : subL L 0 k = L.take k.toNat := by
  unfold subL
  simp
theorem im_mapHolds (N M : List (List Int)) (L : List Int) (hL : L.length ≤ 1048576) (hN : N.length ≤ 8) (hM8 : M.length ≤ 8) (hM : ∀ k : Int, 0 ≤ k → k < (M.length : Int) → (getR .int M k).length ≤ 1048576) (hy : ∀ k : Int, 0 ≤ k → k < (N.length : Int) → (getR .int N k).length ≤ 1048576 ∧ ∀ y ∈ getR .int N k, 0 ≤ y) : Spec2 Try.prog 65 [.cells [.sl (.sl .int) fun _ => N, .sl (.sl .int) fun _ => M], .sl .int fun _ => L] [] [.bool fun _ => holM N M L] [] := by
  have t0 : (!decide ((L.length : Int) = N.length)) = true → false = holM N M L := fun h => by unfold holM; rw [show decide ((L.length : Int) = N.length) = false by simpa using h]; rfl
  have t1 : (L.length : Int) = N.length → allTo (okM N M L) L.length = holM N M L := fun h => by unfold holM; rw [decide_eq_true h]; rfl
  have e2 : ∀ k : Int, 0 ≤ k → k < (L.length : Int) → (L.length : Int) = N.length → 0 ≤ gi L k → gi L k < (M.length : Int) → Spec2 Try.prog 108 [.cells [.sl (.sl .int) fun _ => N, .sl (.sl .int) fun _ => M], .sl .int fun _ => L.take k.toNat, .int fun _ => gi L k] [] [.bool fun _ => fitsM N M (L.take k.toNat) (gi L k)] [] := fun k k0 k1 hl g0 g1 => by
    have hlt : ((L.take k.toNat).length : Int) = k := by rw [List.length_take]; omega
    exact im_mapFits N M (L.take k.toNat) (gi L k) (by omega) hN g0 g1 hM (by rw [hlt]; exact hy k k0 (by omega))
  have o1 : ∀ k : Int, 0 ≤ k → k < (L.length : Int) → okM N M L k = false → (L.length : Int) = N.length → false = holM N M L := fun k k0 k1 h hl => by rw [← t1 hl]; exact (allTo_bad k0 k1 h).symm
  have o2 : ∀ k : Int, okM N M L k = ((decide (0 ≤ gi L k) && decide (gi L k < (M.length : Int))) && fitsM N M (L.take k.toNat) (gi L k)) := fun _ => rfl
  clear hy hM
  generalize holM N M L = r at *
  generalize okM N M L = P at *
  refine fnS [] [4] Try.func65 rfl (by decide) rfl (by decide) (by kernel_rfl) rfl (by simp [Try.ntmps65]) ?_
  cbv
  ((try simp only [IfP_iff, and_true, true_and, decide_eq_true_eq, decide_eq_false_iff_not]); (try simp only [natc, getI_gi, at2_0, at2_1]); (try dsimp only [Ty.den]); (try simp only [natc] at *); (repeat' (first | apply And.intro | intro _)))
  all_goals (try (show EqU _ _; (simp only [IfP_iff, EqU_iff, Obl_iff, and_true, true_and, inI_iff, decide_eq_true_eq, decide_eq_false_iff_not]; (try simp only [natc, getI_gi, at2_0, at2_1]); (try dsimp only [Ty.den]); try simp only [natc] at *); exact t0 (by assumption)))
  have hl : (L.length : Int) = N.length := by simpa using (by assumption : (!decide ((L.length : Int) = N.length)) = false)
  refine loopP (by kernel_rfl) (fun k : Int => 0 ≤ k ∧ k ≤ L.length ∧ allTo P k.toNat = true) (fun k => [(15, .int fun _ => k)]) (fun _ => []) (fun k => (L.length - k).toNat) (· + 1) 0 (by refine ⟨by omega, by omega, rfl⟩) ?_ ?_
  · cbv
    (simp only [IfP_iff, EqU_iff, Obl_iff, and_true, true_and, inI_iff, decide_eq_true_eq, decide_eq_false_iff_not]; (try simp only [natc, getI_gi, at2_0, at2_1]); (try dsimp only [Ty.den]); try simp only [natc] at *)
  · intro k hk
    have a1 : ¬ k < (L.length : Int) → true = r := fun h => by rw [← t1 hl, ← hk.2.2, show k.toNat = L.length by omega]
    have a2 : k < (L.length : Int) → P k = true → allTo P (k + 1).toNat = true := fun h h2 => by
      rw [show (k + 1).toNat = k.toNat + 1 by omega, allTo_next, hk.2.2, show ((k.toNat : Nat) : Int) = k by omega, h2]
      rfl
    have a3 : k < (L.length : Int) → P k = false → false = r := fun h h2 => o1 k hk.1 h h2 hl
    have k0 := hk.1
    have k1 := hk.2.1
    have e3 := im_isIndex (gi L k) (M.length : Int)
    have e4 : k < (L.length : Int) → (!(decide (0 ≤ gi L k) && decide (gi L k < (M.length : Int)))) = false → Spec2 Try.prog 108 [.cells [.sl (.sl .int) fun _ => N, .sl (.sl .int) fun _ => M], .sl .int fun _ => subL L 0 k, .int fun _ => gi L k] [] [.bool fun _ => fitsM N M (L.take k.toNat) (gi L k)] [] := fun h h2 => by
      rw [sub_takeM hk.1]
      have h3 : (decide (0 ≤ gi L k) && decide (gi L k < (M.length : Int))) = true := by simpa using h2
      simp only [Bool.and_eq_true, decide_eq_true_eq] at h3
      exact e2 k hk.1 h hl h3.1 h3.2
    have p1 : (!(decide (0 ≤ gi L k) && decide (gi L k < (M.length : Int)))) = true → P k = false := fun h => by
      rw [o2 k, notT h]; rfl
    have p2 : (!fitsM N M (L.take k.toNat) (gi L k)) = true → P k = false := fun h => by
      rw [o2 k, notT h, Bool.and_false]
    have p3 : (!(decide (0 ≤ gi L k) && decide (gi L k < (M.length : Int)))) = false → (!fitsM N M (L.take k.toNat) (gi L k)) = false → P k = true := fun h h2 => by
      rw [o2 k, notF h2, notF h]; rfl
    clear hk e2 o1 o2 t0 t1
    generalize fitsM N M (L.take k.toNat) (gi L k) = f at *
    generalize P k = pk at *
    cbv
    ((try simp only [IfP_iff, and_true, true_and, decide_eq_true_eq, decide_eq_false_iff_not]); (try simp only [natc, getI_gi, at2_0, at2_1]); (try dsimp only [Ty.den]); (try simp only [natc] at *); (repeat' (first | apply And.intro | intro _)))
    all_goals (repeat' (first | ((first | refine call_q e3 (by cbv) ?_ | refine call_pure e3 (by cbv) ?_); cbv; ((try simp only [IfP_iff, and_true, true_and, decide_eq_true_eq, decide_eq_false_iff_not]); (try simp only [natc, getI_gi, at2_0, at2_1]); (try dsimp only [Ty.den]); (try simp only [natc] at *); (repeat' (first | apply And.intro | intro _)))) | ((first | refine call_q (Spec2.aggM (t := .pr (.sl (.sl .int)) (.sl (.sl .int))) (x := fun _ => (N, M)) (e4 (by assumption) (by assumption))) (by cbv) ?_ | refine call_pure (Spec2.aggM (t := .pr (.sl (.sl .int)) (.sl (.sl .int))) (x := fun _ => (N, M)) (e4 (by assumption) (by assumption))) (by cbv) ?_); cbv; ((try simp only [IfP_iff, and_true, true_and, decide_eq_true_eq, decide_eq_false_iff_not]); (try simp only [natc, getI_gi, at2_0, at2_1]); (try dsimp only [Ty.den]); (try simp only [natc] at *); (repeat' (first | apply And.intro | intro _))))))
    all_goals (try clear e4)
    all_goals (try (simp only [IfP_iff, EqU_iff, Obl_iff, and_true, true_and, inI_iff, decide_eq_true_eq, decide_eq_false_iff_not]; (try simp only [natc, getI_gi, at2_0, at2_1]); (try dsimp only [Ty.den]); try simp only [natc] at *))
    all_goals ((repeat' (first | apply And.intro | intro _)) <;> first | omega | exact a1 (by assumption) | exact a3 (by assumption) (p1 (by assumption)) | exact a3 (by assumption) (p2 (by assumption)) | exact a2 (by assumption) (p3 (by assumption) (by assumption)) | trace_state)
end Go.Proofs.Ytikclhackjjhfaa.M
/- Maps between Graphs: the program's rule is made. -/
namespace Go.Proofs.Ytikclhackjjhfaa.M
open Go.RowKit Abs
set_option linter.unusedSimpArgs false
set_option linter.unusedVariables false
set_option maxRecDepth 100000
set_option maxHeartbeats 4000000
def okMap (n : Int) (l : List (Int × Int)) (nh : Int) (lh : List (Int × Int)) : Bool := graphOk n l && graphOk nh lh && decide (n ≤ 6)
theorem okMap_get {n nh : Int} {l lh : List (Int × Int)} (h : okMap n l nh lh = true) : graphOk n l = true ∧ graphOk nh lh = true ∧ n ≤ 6 := by
  unfold okMap at h
  simpa [Bool.and_eq_true, and_assoc] using h
theorem im_mapRule_bad (n nh : Int) (l lh : List (Int × Int)) (lz : Bool) (hl : l.length ≤ 1048576) (hh : lh.length ≤ 1048576) (hb : okMap n l nh lh = false) : Spec2 Try.prog 64 [.agg (.pr .int (.sl (.pr .int .int))) fun _ => (n, l), .agg (.pr .int (.sl (.pr .int .int))) fun _ => (nh, lh), .bool fun _ => lz] [] [.cells [.nilsl, .nilsl], .bool fun _ => false] [] := by
  have e1 := im_graph n l hl
  have e2 := im_graph nh lh hh
  have hno : (!graphOk n l) = false → (!graphOk nh lh) = false → ¬ n > 6 → False := fun h1 h2 h3 => by
    unfold okMap at hb
    rw [notF h1, notF h2, decide_eq_true (show n ≤ 6 by omega)] at hb
    exact Bool.noConfusion hb
  generalize graphOk n l = r1 at *
  generalize graphOk nh lh = r2 at *
  refine fnGE [3, 8] [.cst 6 2 73, .tmp 7] Try.func64 rfl (by decide) rfl (by kernel_rfl) (.inr (.inl rfl)) (by kernel_rfl) (Nat.zero_le _) (by simp [Try.ntmps64]) ?_
  cbv
  ((try simp only [IfP_iff, and_true, true_and, decide_eq_true_eq, decide_eq_false_iff_not]); (try simp only [natc, getI_gi, at2_0, at2_1]); (try dsimp only [Ty.den]); (try simp only [natc] at *); (repeat' (first | apply And.intro | intro _)))
  all_goals (repeat' (first | ((first | refine call_q e1 (by cbv) ?_ | refine call_pure e1 (by cbv) ?_); cbv; ((try simp only [IfP_iff, and_true, true_and, decide_eq_true_eq, decide_eq_false_iff_not]); (try simp only [natc, getI_gi, at2_0, at2_1]); (try dsimp only [Ty.den]); (try simp only [natc] at *); (repeat' (first | apply And.intro | intro _)))) | ((first | refine call_q e2 (by cbv) ?_ | refine call_pure e2 (by cbv) ?_); cbv; ((try simp only [IfP_iff, and_true, true_and, decide_eq_true_eq, decide_eq_false_iff_not]); (try simp only [natc, getI_gi, at2_0, at2_1]); (try dsimp only [Ty.den]); (try simp only [natc] at *); (repeat' (first | apply And.intro | intro _))))))
  all_goals (try (exact (hno (by assumption) (by assumption) (by assumption)).elim))
  all_goals (try (refine EndG.plain [] ?_; cbv; (simp only [IfP_iff, EqU_iff, Obl_iff, and_true, true_and, inI_iff, decide_eq_true_eq, decide_eq_false_iff_not]; (try simp only [natc, getI_gi, at2_0, at2_1]); (try dsimp only [Ty.den]); try simp only [natc] at *); done))
  all_goals (try (simp only [IfP_iff, EqU_iff, Obl_iff, and_true, true_and, inI_iff, decide_eq_true_eq, decide_eq_false_iff_not]; (try simp only [natc, getI_gi, at2_0, at2_1]); (try dsimp only [Ty.den]); try simp only [natc] at *))
theorem im_mapRule_ok (n nh : Int) (l lh : List (Int × Int)) (lz : Bool) (hl : l.length ≤ 1048576) (hh : lh.length ≤ 1048576) (hb : okMap n l nh lh = true) : Spec2 Try.prog 64 [.agg (.pr .int (.sl (.pr .int .int))) fun _ => (n, l), .agg (.pr .int (.sl (.pr .int .int))) fun _ => (nh, lh), .bool fun _ => lz] [] [.cells [.ref 0, .ref 1], .bool fun _ => true] [some (.rows 37 3 .int fun _ => nearR l n), some (.rows 37 3 .int fun _ => meetR nh lh lz)] := by
  obtain ⟨hg, hk, n6⟩ := okMap_get hb
  obtain ⟨⟨g0, g1⟩, g2, _⟩ := graph_edges hg
  obtain ⟨⟨h0, h1⟩, h2, _⟩ := graph_edges hk
  have e1 := im_graph n l hl
  have e2 := im_graph nh lh hh
  rw [hg] at e1
  rw [hk] at e2
  have e3 := im_nearLists l n g0 (by omega) hl g2
  have e4 := im_nearLists lh nh h0 (by omega) hh h2
  have t1 : lz = true → lazK (nearR lh nh) (nearR lh nh).length = meetR nh lh lz := fun h => by unfold meetR; rw [if_pos h]
  have t2 : lz = false → nearR lh nh = meetR nh lh lz := fun h => by unfold meetR; rw [h]; rfl
  have hlen : ∀ k, (lazK (nearR lh nh) k).length = (nearR lh nh).length := lazK_len _
  have hR : (nearR lh nh).length ≤ 8 := by rw [nearR_len]; omega
  have hrow : ∀ k : Int, 0 ≤ k → k < ((nearR lh nh).length : Int) → (getR .int (lazK (nearR lh nh) k.toNat) k).length ≤ 1048576 := fun k k0 k1 => by
    rw [lazK_row _ k0 k1 _ (by omega), if_neg (by omega), nearR_row k0 h2]
    exact Nat.le_trans (rowV_len _ _) hh
  clear hb hg hk g2 h2
  generalize nearR l n = N at *
  generalize nearR lh nh = R at *
  generalize meetR nh lh lz = M at *
  refine fnGE [3, 8] [.cst 6 2 73, .tmp 7] Try.func64 rfl (by decide) rfl (by kernel_rfl) (.inr (.inl rfl)) (by kernel_rfl) (Nat.zero_le _) (by simp [Try.ntmps64]) ?_
  cbv
  ((try simp only [IfP_iff, and_true, true_and, decide_eq_true_eq, decide_eq_false_iff_not]); (try simp only [natc, getI_gi, at2_0, at2_1]); (try dsimp only [Ty.den]); (try simp only [natc] at *); (repeat' (first | apply And.intro | intro _)))
  all_goals (repeat' (first | ((first | refine call_q e1 (by cbv) ?_ | refine call_pure e1 (by cbv) ?_); cbv; ((try simp only [IfP_iff, and_true, true_and, decide_eq_true_eq, decide_eq_false_iff_not]); (try simp only [natc, getI_gi, at2_0, at2_1]); (try dsimp only [Ty.den]); (try simp only [natc] at *); (repeat' (first | apply And.intro | intro _)))) | ((first | refine call_q e2 (by cbv) ?_ | refine call_pure e2 (by cbv) ?_); cbv; ((try simp only [IfP_iff, and_true, true_and, decide_eq_true_eq, decide_eq_false_iff_not]); (try simp only [natc, getI_gi, at2_0, at2_1]); (try dsimp only [Ty.den]); (try simp only [natc] at *); (repeat' (first | apply And.intro | intro _))))))
  all_goals (try (exact absurd (by assumption : (!true) = true) (by decide)))
  all_goals (try (exact absurd (by assumption) (show ¬ n > 6 by omega)))
  refine DrawL.layersS [(4, fun S => S.new (some 28) (.ref S.H.length) (.rows 37 3 .int fun _ => N)), (9, fun S => S.new (some 33) (.ref S.H.length) (.rows 37 3 .int fun _ => R))] [] (fun l i => if (i == 4) = true then (if (l.getD 9 false && l.getD 11 false) = true then some [0, 1, 2, 5, 3, 4] else if (l.getD 9 false || l.getD 11 false) = true then some [0, 1, 2, 4, 3] else none) else if (i == 9) = true then (if (l.getD 4 false && l.getD 11 false) = true then some [0, 1, 2, 3, 5, 4] else if (l.getD 11 false) = true then some [0, 1, 2, 4, 3] else none) else none) [([false, false, false, false, false, false, false, false, false, false, false, false, false], [0, 2, 5, 7, 11]), ([true, false, false, false, false, false, false, false, false, false, false, false, false], [1, 2, 5, 7, 11]), ([false, false, true, false, false, false, false, false, false, false, false, false, false], [0, 3, 5, 7, 11]), ([false, false, false, false, false, true, false, false, false, false, false, false, false], [0, 2, 6, 7, 11]), ([false, false, false, false, false, false, false, true, false, false, false, false, false], [0, 2, 5, 8, 11]), ([false, false, false, false, false, false, false, false, false, false, false, true, false], [0, 2, 5, 7]), ([true, true, false, false, false, false, false, false, false, false, false, false, false], [2, 5, 7, 11]), ([true, false, true, false, false, false, false, false, false, false, false, false, false], [1, 3, 5, 7, 11]), ([true, false, false, false, false, true, false, false, false, false, false, false, false], [1, 2, 6, 7, 11]), ([true, false, false, false, false, false, false, true, false, false, false, false, false], [1, 2, 5, 8, 11]), ([true, false, false, false, false, false, false, false, false, false, false, true, false], [1, 2, 5, 7]), ([false, false, true, true, false, false, false, false, false, false, false, false, false], [0, 5, 7, 11]), ([false, false, true, false, false, true, false, false, false, false, false, false, false], [0, 3, 6, 7, 11]), ([false, false, true, false, false, false, false, true, false, false, false, false, false], [0, 3, 5, 8, 11]), ([false, false, true, false, false, false, false, false, false, false, false, true, false], [0, 3, 5, 7]), ([false, false, false, false, false, true, true, false, false, false, false, false, false], [0, 2, 7, 11]), ([false, false, false, false, false, true, false, true, false, false, false, false, false], [0, 2, 6, 8, 11]), ([false, false, false, false, false, true, false, false, false, false, false, true, false], [0, 2, 6, 7]), ([false, false, false, false, false, false, false, true, true, false, false, false, false], [0, 2, 5, 11]), ([false, false, false, false, false, false, false, true, false, false, false, true, false], [0, 2, 5, 8]), ([true, true, true, false, false, false, false, false, false, false, false, false, false], [3, 5, 7, 11]), ([true, true, false, false, false, true, false, false, false, false, false, false, false], [2, 6, 7, 11]), ([true, true, false, false, false, false, false, true, false, false, false, false, false], [2, 5, 8, 11]), ([true, true, false, false, false, false, false, false, false, false, false, true, false], [2, 5, 7]), ([true, false, true, true, false, false, false, false, false, false, false, false, false], [1, 5, 7, 11]), ([true, false, true, false, false, true, false, false, false, false, false, false, false], [1, 3, 6, 7, 11]), ([true, false, true, false, false, false, false, true, false, false, false, false, false], [1, 3, 5, 8, 11]), ([true, false, true, false, false, false, false, false, false, false, false, true, false], [1, 3, 5, 7]), ([true, false, false, false, false, true, true, false, false, false, false, false, false], [1, 2, 7, 11]), ([true, false, false, false, false, true, false, true, false, false, false, false, false], [1, 2, 6, 8, 11]), ([true, false, false, false, false, true, false, false, false, false, false, true, false], [1, 2, 6, 7]), ([true, false, false, false, false, false, false, true, true, false, false, false, false], [1, 2, 5, 11]), ([true, false, false, false, false, false, false, true, false, false, false, true, false], [1, 2, 5, 8]), ([false, false, true, true, false, true, false, false, false, false, false, false, false], [0, 6, 7, 11]), ([false, false, true, true, false, false, false, true, false, false, false, false, false], [0, 5, 8, 11]), ([false, false, true, true, false, false, false, false, false, false, false, true, false], [0, 5, 7]), ([false, false, true, false, false, true, true, false, false, false, false, false, false], [0, 3, 7, 11]), ([false, false, true, false, false, true, false, true, false, false, false, false, false], [0, 3, 6, 8, 11]), ([false, false, true, false, false, true, false, false, false, false, false, true, false], [0, 3, 6, 7]), ([false, false, true, false, false, false, false, true, true, false, false, false, false], [0, 3, 5, 11]), ([false, false, true, false, false, false, false, true, false, false, false, true, false], [0, 3, 5, 8]), ([false, false, false, false, false, true, true, true, false, false, false, false, false], [0, 2, 8, 11]), ([false, false, false, false, false, true, true, false, false, false, false, true, false], [0, 2, 7]), ([false, false, false, false, false, true, false, true, true, false, false, false, false], [0, 2, 6, 11]), ([false, false, false, false, false, true, false, true, false, false, false, true, false], [0, 2, 6, 8]), ([false, false, false, false, false, false, false, true, true, false, false, true, false], [0, 2, 5]), ([true, true, true, true, false, false, false, false, false, false, false, false, false], [4, 5, 7, 11]), ([true, true, true, false, false, true, false, false, false, false, false, false, false], [3, 6, 7, 11]), ([true, true, true, false, false, false, false, true, false, false, false, false, false], [3, 5, 8, 11]), ([true, true, true, false, false, false, false, false, false, false, false, true, false], [3, 5, 7]), ([true, true, false, false, false, true, true, false, false, false, false, false, false], [2, 7, 11]), ([true, true, false, false, false, true, false, true, false, false, false, false, false], [2, 6, 8, 11]), ([true, true, false, false, false, true, false, false, false, false, false, true, false], [2, 6, 7]), ([true, true, false, false, false, false, false, true, true, false, false, false, false], [2, 5, 11]), ([true, true, false, false, false, false, false, true, false, false, false, true, false], [2, 5, 8]), ([true, false, true, true, false, true, false, false, false, false, false, false, false], [1, 6, 7, 11]), ([true, false, true, true, false, false, false, true, false, false, false, false, false], [1, 5, 8, 11]), ([true, false, true, true, false, false, false, false, false, false, false, true, false], [1, 5, 7]), ([true, false, true, false, false, true, true, false, false, false, false, false, false], [1, 3, 7, 11]), ([true, false, true, false, false, true, false, true, false, false, false, false, false], [1, 3, 6, 8, 11]), ([true, false, true, false, false, true, false, false, false, false, false, true, false], [1, 3, 6, 7]), ([true, false, true, false, false, false, false, true, true, false, false, false, false], [1, 3, 5, 11]), ([true, false, true, false, false, false, false, true, false, false, false, true, false], [1, 3, 5, 8]), ([true, false, false, false, false, true, true, true, false, false, false, false, false], [1, 2, 8, 11]), ([true, false, false, false, false, true, true, false, false, false, false, true, false], [1, 2, 7]), ([true, false, false, false, false, true, false, true, true, false, false, false, false], [1, 2, 6, 11]), ([true, false, false, false, false, true, false, true, false, false, false, true, false], [1, 2, 6, 8]), ([true, false, false, false, false, false, false, true, true, false, false, true, false], [1, 2, 5]), ([false, false, true, true, false, true, true, false, false, false, false, false, false], [0, 7, 11]), ([false, false, true, true, false, true, false, true, false, false, false, false, false], [0, 6, 8, 11]), ([false, false, true, true, false, true, false, false, false, false, false, true, false], [0, 6, 7]), ([false, false, true, true, false, false, false, true, true, false, false, false, false], [0, 5, 11]), ([false, false, true, true, false, false, false, true, false, false, false, true, false], [0, 5, 8]), ([false, false, true, false, false, true, true, true, false, false, false, false, false], [0, 3, 8, 11]), ([false, false, true, false, false, true, true, false, false, false, false, true, false], [0, 3, 7]), ([false, false, true, false, false, true, false, true, true, false, false, false, false], [0, 3, 6, 11]), ([false, false, true, false, false, true, false, true, false, false, false, true, false], [0, 3, 6, 8]), ([false, false, true, false, false, false, false, true, true, false, false, true, false], [0, 3, 5]), ([false, false, false, false, false, true, true, true, true, false, false, false, false], [0, 2, 11]), ([false, false, false, false, false, true, true, true, false, false, false, true, false], [0, 2, 8]), ([false, false, false, false, false, true, false, true, true, false, false, true, false], [0, 2, 6]), ([true, true, true, true, true, false, false, false, false, false, false, false, false], [5, 7, 11]), ([true, true, true, true, false, true, false, false, false, false, false, false, false], [4, 6, 7, 11]), ([true, true, true, true, false, false, false, true, false, false, false, false, false], [4, 5, 8, 11]), ([true, true, true, true, false, false, false, false, false, false, false, true, false], [4, 5, 7]), ([true, true, true, false, false, true, true, false, false, false, false, false, false], [3, 7, 11]), ([true, true, true, false, false, true, false, true, false, false, false, false, false], [3, 6, 8, 11]), ([true, true, true, false, false, true, false, false, false, false, false, true, false], [3, 6, 7]), ([true, true, true, false, false, false, false, true, true, false, false, false, false], [3, 5, 11]), ([true, true, true, false, false, false, false, true, false, false, false, true, false], [3, 5, 8]), ([true, true, false, false, false, true, true, true, false, false, false, false, false], [2, 8, 11]), ([true, true, false, false, false, true, true, false, false, false, false, true, false], [2, 7]), ([true, true, false, false, false, true, false, true, true, false, false, false, false], [2, 6, 11]), ([true, true, false, false, false, true, false, true, false, false, false, true, false], [2, 6, 8]), ([true, true, false, false, false, false, false, true, true, false, false, true, false], [2, 5]), ([true, false, true, true, false, true, true, false, false, false, false, false, false], [1, 7, 11]), ([true, false, true, true, false, true, false, true, false, false, false, false, false], [1, 6, 8, 11]), ([true, false, true, true, false, true, false, false, false, false, false, true, false], [1, 6, 7]), ([true, false, true, true, false, false, false, true, true, false, false, false, false], [1, 5, 11]), ([true, false, true, true, false, false, false, true, false, false, false, true, false], [1, 5, 8]), ([true, false, true, false, false, true, true, true, false, false, false, false, false], [1, 3, 8, 11]), ([true, false, true, false, false, true, true, false, false, false, false, true, false], [1, 3, 7]), ([true, false, true, false, false, true, false, true, true, false, false, false, false], [1, 3, 6, 11]), ([true, false, true, false, false, true, false, true, false, false, false, true, false], [1, 3, 6, 8]), ([true, false, true, false, false, false, false, true, true, false, false, true, false], [1, 3, 5]), ([true, false, false, false, false, true, true, true, true, false, false, false, false], [1, 2, 11]), ([true, false, false, false, false, true, true, true, false, false, false, true, false], [1, 2, 8]), ([true, false, false, false, false, true, false, true, true, false, false, true, false], [1, 2, 6]), ([false, false, true, true, false, true, true, true, false, false, false, false, false], [0, 8, 11]), ([false, false, true, true, false, true, true, false, false, false, false, true, false], [0, 7]), ([false, false, true, true, false, true, false, true, true, false, false, false, false], [0, 6, 11]), ([false, false, true, true, false, true, false, true, false, false, false, true, false], [0, 6, 8]), ([false, false, true, true, false, false, false, true, true, false, false, true, false], [0, 5]), ([false, false, true, false, false, true, true, true, true, false, false, false, false], [0, 3, 11]), ([false, false, true, false, false, true, true, true, false, false, false, true, false], [0, 3, 8]), ([false, false, true, false, false, true, false, true, true, false, false, true, false], [0, 3, 6]), ([false, false, false, false, false, true, true, true, true, false, false, true, false], [0, 2]), ([true, true, true, true, true, true, false, false, false, false, false, false, false], [6, 7, 11]), ([true, true, true, true, true, false, false, true, false, false, false, false, false], [5, 8, 11]), ([true, true, true, true, true, false, false, false, false, false, false, true, false], [5, 7]), ([true, true, true, true, false, true, true, false, false, false, false, false, false], [4, 7, 11]), ([true, true, true, true, false, true, false, true, false, false, false, false, false], [4, 6, 8, 11]), ([true, true, true, true, false, true, false, false, false, false, false, true, false], [4, 6, 7]), ([true, true, true, true, false, false, false, true, true, false, false, false, false], [4, 5, 11]), ([true, true, true, true, false, false, false, true, false, false, false, true, false], [4, 5, 8]), ([true, true, true, false, false, true, true, true, false, false, false, false, false], [3, 8, 11]), ([true, true, true, false, false, true, true, false, false, false, false, true, false], [3, 7]), ([true, true, true, false, false, true, false, true, true, false, false, false, false], [3, 6, 11]), ([true, true, true, false, false, true, false, true, false, false, false, true, false], [3, 6, 8]), ([true, true, true, false, false, false, false, true, true, false, false, true, false], [3, 5]), ([true, true, false, false, false, true, true, true, true, false, false, false, false], [2, 11]), ([true, true, false, false, false, true, true, true, false, false, false, true, false], [2, 8]), ([true, true, false, false, false, true, false, true, true, false, false, true, false], [2, 6]), ([true, false, true, true, false, true, true, true, false, false, false, false, false], [1, 8, 11]), ([true, false, true, true, false, true, true, false, false, false, false, true, false], [1, 7]), ([true, false, true, true, false, true, false, true, true, false, false, false, false], [1, 6, 11]), ([true, false, true, true, false, true, false, true, false, false, false, true, false], [1, 6, 8]), ([true, false, true, true, false, false, false, true, true, false, false, true, false], [1, 5]), ([true, false, true, false, false, true, true, true, true, false, false, false, false], [1, 3, 11]), ([true, false, true, false, false, true, true, true, false, false, false, true, false], [1, 3, 8]), ([true, false, true, false, false, true, false, true, true, false, false, true, false], [1, 3, 6]), ([true, false, false, false, false, true, true, true, true, false, false, true, false], [1, 2]), ([false, false, true, true, false, true, true, true, true, false, false, false, false], [0, 11]), ([false, false, true, true, false, true, true, true, false, false, false, true, false], [0, 8]), ([false, false, true, true, false, true, false, true, true, false, false, true, false], [0, 6]), ([false, false, true, false, false, true, true, true, true, false, false, true, false], [0, 3]), ([true, true, true, true, true, true, true, false, false, false, false, false, false], [7, 11]), ([true, true, true, true, true, true, false, true, false, false, false, false, false], [6, 8, 11]), ([true, true, true, true, true, true, false, false, false, false, false, true, false], [6, 7]), ([true, true, true, true, true, false, false, true, true, false, false, false, false], [5, 11]), ([true, true, true, true, true, false, false, true, false, false, false, true, false], [5, 8]), ([true, true, true, true, false, true, true, true, false, false, false, false, false], [4, 8, 11]), ([true, true, true, true, false, true, true, false, false, false, false, true, false], [4, 7]), ([true, true, true, true, false, true, false, true, true, false, false, false, false], [4, 6, 11]), ([true, true, true, true, false, true, false, true, false, false, false, true, false], [4, 6, 8]), ([true, true, true, true, false, false, false, true, true, false, false, true, false], [4, 5]), ([true, true, true, false, false, true, true, true, true, false, false, false, false], [3, 11]), ([true, true, true, false, false, true, true, true, false, false, false, true, false], [3, 8]), ([true, true, true, false, false, true, false, true, true, false, false, true, false], [3, 6]), ([true, true, false, false, false, true, true, true, true, false, false, true, false], [2]), ([true, false, true, true, false, true, true, true, true, false, false, false, false], [1, 11]), ([true, false, true, true, false, true, true, true, false, false, false, true, false], [1, 8]), ([true, false, true, true, false, true, false, true, true, false, false, true, false], [1, 6]), ([true, false, true, false, false, true, true, true, true, false, false, true, false], [1, 3]), ([false, false, true, true, false, true, true, true, true, false, false, true, false], [0]), ([true, true, true, true, true, true, true, true, false, false, false, false, false], [8, 11]), ([true, true, true, true, true, true, true, false, false, false, false, true, false], [7]), ([true, true, true, true, true, true, false, true, true, false, false, false, false], [6, 11]), ([true, true, true, true, true, true, false, true, false, false, false, true, false], [6, 8]), ([true, true, true, true, true, false, false, true, true, false, false, true, false], [5]), ([true, true, true, true, false, true, true, true, true, false, false, false, false], [4, 11]), ([true, true, true, true, false, true, true, true, false, false, false, true, false], [4, 8]), ([true, true, true, true, false, true, false, true, true, false, false, true, false], [4, 6]), ([true, true, true, false, false, true, true, true, true, false, false, true, false], [3]), ([true, false, true, true, false, true, true, true, true, false, false, true, false], [1]), ([true, true, true, true, true, true, true, true, true, false, false, false, false], [9, 11]), ([true, true, true, true, true, true, true, true, false, false, false, true, false], [8]), ([true, true, true, true, true, true, false, true, true, false, false, true, false], [6]), ([true, true, true, true, false, true, true, true, true, false, false, true, false], [4]), ([true, true, true, true, true, true, true, true, true, true, false, false, false], [10, 11]), ([true, true, true, true, true, true, true, true, true, false, false, true, false], [9]), ([true, true, true, true, true, true, true, true, true, true, true, false, false], [11]), ([true, true, true, true, true, true, true, true, true, true, false, true, false], [10]), ([true, true, true, true, true, true, true, true, true, true, true, true, false], [12]), ([true, true, true, true, true, true, true, true, true, true, true, true, true], [])] (by kernel_rfl) (by rfl) ?_
  cbv
  (repeat' (first | apply And.intro | apply EqU.mk))
  all_goals (try trivial)
  all_goals (try (((first | refine call_q e3 (by cbv) ?_ | refine call_pure e3 (by cbv) ?_); cbv; ((try simp only [IfP_iff, and_true, true_and, decide_eq_true_eq, decide_eq_false_iff_not]); (try simp only [natc, getI_gi, at2_0, at2_1]); (try dsimp only [Ty.den]); (try simp only [natc] at *); (repeat' (first | apply And.intro | intro _))))))
  all_goals (try (((first | refine call_q e4 (by cbv) ?_ | refine call_pure e4 (by cbv) ?_); cbv; ((try simp only [IfP_iff, and_true, true_and, decide_eq_true_eq, decide_eq_false_iff_not]); (try simp only [natc, getI_gi, at2_0, at2_1]); (try dsimp only [Ty.den]); (try simp only [natc] at *); (repeat' (first | apply And.intro | intro _))))))
  all_goals (try (first | trivial | rfl))
  all_goals (try (show EqU _ _; exact EqU_iff.2 rfl))
  ((try simp only [IfP_iff, and_true, true_and, decide_eq_true_eq, decide_eq_false_iff_not]); (try simp only [natc, getI_gi, at2_0, at2_1]); (try dsimp only [Ty.den]); (try simp only [natc] at *); (repeat' (first | apply And.intro | intro _)))
  · refine loopE [8] (by kernel_rfl) (fun k : Int => 0 ≤ k ∧ k ≤ R.length) (fun k => [(39, .int fun _ => k)]) (fun k => [(4, some (.rows 37 3 .int fun _ => lazK R k.toNat))]) (fun k => (R.length - k).toNat) (· + 1) 0 (by omega) ?_ ?_
    · cbv
      (simp only [IfP_iff, EqU_iff, Obl_iff, and_true, true_and, inI_iff, decide_eq_true_eq, decide_eq_false_iff_not]; (try simp only [natc, getI_gi, at2_0, at2_1]); (try dsimp only [Ty.den]); try simp only [natc] at *)
      all_goals (first | rfl | trace_state)
    · intro k hk
      have i1 := lazK_next R hk.1
      have i2 := hrow k hk.1
      have i3 := hlen k.toNat
      have i4 : lz = true → ¬ k < (R.length : Int) → lazK R k.toNat = M := fun h h2 => by rw [show k.toNat = R.length by omega]; exact t1 h
      have k0 := hk.1
      have k1 := hk.2
      clear hrow hlen t1 t2 hk
      cbv
      ((try simp only [IfP_iff, and_true, true_and, decide_eq_true_eq, decide_eq_false_iff_not]); (try simp only [natc, getI_gi, at2_0, at2_1]); (try dsimp only [Ty.den]); (try simp only [natc] at *); (repeat' (first | apply And.intro | intro _)))
      all_goals (try (refine EndG.plain [3, 4] ?_; cbv; (simp only [IfP_iff, EqU_iff, Obl_iff, and_true, true_and, inI_iff, decide_eq_true_eq, decide_eq_false_iff_not]; (try simp only [natc, getI_gi, at2_0, at2_1]); (try dsimp only [Ty.den]); try simp only [natc] at *); exact i4 (by assumption) (by assumption)))
      all_goals (try (show Obl _; (simp only [IfP_iff, EqU_iff, Obl_iff, and_true, true_and, inI_iff, decide_eq_true_eq, decide_eq_false_iff_not]; (try simp only [natc, getI_gi, at2_0, at2_1]); (try dsimp only [Ty.den]); try simp only [natc] at *); ((repeat' (first | apply And.intro | intro _)) <;> first | omega)))
      refine DrawL.layersS [] [2, 5, 8] (fun _ _ => none) [([false, false, true, false, false, true, false, false, true, false, false, false, false], [0, 3, 9]), ([true, false, true, false, false, true, false, false, true, false, false, false, false], [1, 3, 9]), ([false, false, true, true, false, true, false, false, true, false, false, false, false], [0, 4, 9]), ([false, false, true, false, false, true, false, false, true, true, false, false, false], [0, 3]), ([true, true, true, false, false, true, false, false, true, false, false, false, false], [3, 9]), ([true, false, true, true, false, true, false, false, true, false, false, false, false], [1, 4, 9]), ([true, false, true, false, false, true, false, false, true, true, false, false, false], [1, 3]), ([false, false, true, true, true, true, false, false, true, false, false, false, false], [0, 6, 9]), ([false, false, true, true, false, true, false, false, true, true, false, false, false], [0, 4]), ([true, true, true, true, false, true, false, false, true, false, false, false, false], [4, 9]), ([true, true, true, false, false, true, false, false, true, true, false, false, false], [3]), ([true, false, true, true, true, true, false, false, true, false, false, false, false], [1, 6, 9]), ([true, false, true, true, false, true, false, false, true, true, false, false, false], [1, 4]), ([false, false, true, true, true, true, true, false, true, false, false, false, false], [0, 7, 9]), ([false, false, true, true, true, true, false, false, true, true, false, false, false], [0, 6]), ([true, true, true, true, true, true, false, false, true, false, false, false, false], [6, 9]), ([true, true, true, true, false, true, false, false, true, true, false, false, false], [4]), ([true, false, true, true, true, true, true, false, true, false, false, false, false], [1, 7, 9]), ([true, false, true, true, true, true, false, false, true, true, false, false, false], [1, 6]), ([false, false, true, true, true, true, true, true, true, false, false, false, false], [0, 9]), ([false, false, true, true, true, true, true, false, true, true, false, false, false], [0, 7]), ([true, true, true, true, true, true, true, false, true, false, false, false, false], [7, 9]), ([true, true, true, true, true, true, false, false, true, true, false, false, false], [6]), ([true, false, true, true, true, true, true, true, true, false, false, false, false], [1, 9]), ([true, false, true, true, true, true, true, false, true, true, false, false, false], [1, 7]), ([false, false, true, true, true, true, true, true, true, true, false, false, false], [0, 10]), ([true, true, true, true, true, true, true, true, true, false, false, false, false], [9]), ([true, true, true, true, true, true, true, false, true, true, false, false, false], [7]), ([true, false, true, true, true, true, true, true, true, true, false, false, false], [1, 10]), ([false, false, true, true, true, true, true, true, true, true, true, false, false], [0]), ([true, true, true, true, true, true, true, true, true, true, false, false, false], [10]), ([true, false, true, true, true, true, true, true, true, true, true, false, false], [1]), ([true, true, true, true, true, true, true, true, true, true, true, false, false], [11]), ([true, true, true, true, true, true, true, true, true, true, true, true, false], [12]), ([true, true, true, true, true, true, true, true, true, true, true, true, true], [])] (by kernel_rfl) (by rfl) ?_
      cbv
      (repeat' (first | apply And.intro | apply EqU.mk))
      all_goals (try trivial)
      all_goals (try (first | trivial | rfl))
      all_goals (try (show EqU _ _; exact EqU_iff.2 rfl))
      all_goals (try (simp only [IfP_iff, EqU_iff, Obl_iff, and_true, true_and, inI_iff, decide_eq_true_eq, decide_eq_false_iff_not]; (try simp only [natc, getI_gi, at2_0, at2_1]); (try dsimp only [Ty.den]); try simp only [natc] at *))
      all_goals ((repeat' (first | apply And.intro | intro _)) <;> first | omega | exact i1.symm | (simp only [List.length_cons, List.length_nil]; omega) | trace_state)
  · all_goals (try (refine EndG.plain [3, 4] ?_; cbv; (simp only [IfP_iff, EqU_iff, Obl_iff, and_true, true_and, inI_iff, decide_eq_true_eq, decide_eq_false_iff_not]; (try simp only [natc, getI_gi, at2_0, at2_1]); (try dsimp only [Ty.den]); try simp only [natc] at *); exact t2 (by assumption)))
    all_goals (trace_state)
end Go.Proofs.Ytikclhackjjhfaa.M
/- IsMap: both sides. -/
namespace Go.Proofs.Ytikclhackjjhfaa.M
open Go.RowKit Abs
set_option linter.unusedSimpArgs false
set_option linter.unusedVariables false
set_option maxRecDepth 100000
set_option maxHeartbeats 4000000
def prs28M : List (Int × Int) := (List.range 8).flatMap fun (b : Nat) => (List.range b).map fun (a : Nat) => ((a : Int), (b : Int))
theorem graph_28M {n : Int} {l : List (Int × Int)} (h : graphOk n l = true) : l.length ≤ 28 := by
  obtain ⟨g1, g2, g3⟩ := graph_edges h
  have hnd : l.Nodup := g3.imp fun {a b} hab e => by
    subst e
    unfold edgeLt at hab
    simp at hab
  have hs : l ⊆ prs28M := fun e he => by
    have := g2 e he
    unfold prs28M
    refine List.mem_flatMap.2 ⟨e.2.toNat, List.mem_range.2 (by omega), List.mem_map.2 ⟨e.1.toNat, List.mem_range.2 (by omega), ?_⟩⟩
    have a : ((e.1.toNat : Nat) : Int) = e.1 := by omega
    have b : ((e.2.toNat : Nat) : Int) = e.2 := by omega
    rw [a, b]
  have := List.Nodup.length_le_of_subset hnd hs
  have e : prs28M.length = 28 := by decide +kernel
  omega
theorem hol_len {n : Int} {l : List (Int × Int)} (hg : graphOk n l = true) : (nearR l n).length ≤ 8 := by
  rw [nearR_len]
  have := (graph_edges hg).1
  omega
def isMapB (n : Int) (l : List (Int × Int)) (nh : Int) (lh : List (Int × Int)) (L : List Int) (lz : Bool) : Bool := okMap n l nh lh && mapB n l nh lh L lz
theorem im_isMap (n nh : Int) (l lh : List (Int × Int)) (L : List Int) (lz : Bool) (hl : l.length ≤ 1048576) (hh : lh.length ≤ 1048576) (hL : L.length ≤ 1048576) : Spec2 Try.prog 27 [.agg (.pr .int (.sl (.pr .int .int))) fun _ => (n, l), .agg (.pr .int (.sl (.pr .int .int))) fun _ => (nh, lh), .sl .int fun _ => L, .bool fun _ => lz] [] [.bool fun _ => isMapB n l nh lh L lz, .bool fun _ => okMap n l nh lh] [] := by
  cases hb : okMap n l nh lh with
  | false =>
    rw [show isMapB n l nh lh L lz = false by unfold isMapB; rw [hb]; rfl]
    have e1 := im_mapRule_bad n nh l lh lz hl hh hb
    refine fnS [] [8, 9] Try.func27 rfl (by decide) rfl (by decide) (by kernel_rfl) rfl (by simp [Try.ntmps27]) ?_
    cbv
    ((try simp only [IfP_iff, and_true, true_and, decide_eq_true_eq, decide_eq_false_iff_not]); (try simp only [natc, getI_gi, at2_0, at2_1]); (try dsimp only [Ty.den]); (try simp only [natc] at *); (repeat' (first | apply And.intro | intro _)))
    all_goals (repeat' (first | ((first | refine call_q e1 (by cbv) ?_ | refine call_pure e1 (by cbv) ?_); cbv; ((try simp only [IfP_iff, and_true, true_and, decide_eq_true_eq, decide_eq_false_iff_not]); (try simp only [natc, getI_gi, at2_0, at2_1]); (try dsimp only [Ty.den]); (try simp only [natc] at *); (repeat' (first | apply And.intro | intro _))))))
    all_goals (try (exact absurd (by assumption : false = true) (by decide)))
    all_goals (try (simp only [IfP_iff, EqU_iff, Obl_iff, and_true, true_and, inI_iff, decide_eq_true_eq, decide_eq_false_iff_not]; (try simp only [natc, getI_gi, at2_0, at2_1]); (try dsimp only [Ty.den]); try simp only [natc] at *))
  | true =>
    obtain ⟨hg, hk, n6⟩ := okMap_get hb
    obtain ⟨⟨g0, g1⟩, g2, _⟩ := graph_edges hg
    obtain ⟨⟨h0, h1⟩, h2, _⟩ := graph_edges hk
    rw [show isMapB n l nh lh L lz = holM (nearR l n) (meetR nh lh lz) L by unfold isMapB; rw [hb, hol_map hg hk]; rfl]
    have e1 := im_mapRule_ok n nh l lh lz hl hh hb
    have e2 := im_mapHolds (nearR l n) (meetR nh lh lz) L hL (hol_len hg) (by rw [meetR_len]; omega) (fun k k0 k1 => by
      rw [meetR_len] at k1
      rw [meet_row lz hk k0 (by omega), List.length_append]
      have a1 := rowV_len k lh
      have a2 := (graph_edges hk).1
      have a3 : (if lz = true then [k] else []).length ≤ 1 := by split <;> simp
      have a4 := graph_28M hk
      omega) (fun k k0 k1 => by
      rw [nearR_len] at k1
      rw [nearR_row k0 g2]
      refine ⟨Nat.le_trans (rowV_len _ _) hl, fun (y : Int) hy => ?_⟩
      have : hasB (rowV k l) y = true := hasB_iff.2 hy
      rw [row_has (fun e h => ⟨(g2 e h).1, (g2 e h).2.1⟩)] at this
      unfold nearB at this
      rw [List.any_eq_true] at this
      obtain ⟨e, he, hi⟩ := this
      have := g2 e he
      unfold hit at hi
      simp only [Bool.or_eq_true, Bool.and_eq_true, beq_iff_eq] at hi
      show (0 : Int) ≤ y
      omega)
    generalize holM (nearR l n) (meetR nh lh lz) L = r at *
    generalize nearR l n = N at *
    generalize meetR nh lh lz = M at *
    refine fnS [] [8, 9] Try.func27 rfl (by decide) rfl (by decide) (by kernel_rfl) rfl (by simp [Try.ntmps27]) ?_
    cbv
    ((try simp only [IfP_iff, and_true, true_and, decide_eq_true_eq, decide_eq_false_iff_not]); (try simp only [natc, getI_gi, at2_0, at2_1]); (try dsimp only [Ty.den]); (try simp only [natc] at *); (repeat' (first | apply And.intro | intro _)))
    all_goals (repeat' (first | ((first | refine call_q e1 (by cbv) ?_ | refine call_pure e1 (by cbv) ?_); cbv; ((try simp only [IfP_iff, and_true, true_and, decide_eq_true_eq, decide_eq_false_iff_not]); (try simp only [natc, getI_gi, at2_0, at2_1]); (try dsimp only [Ty.den]); (try simp only [natc] at *); (repeat' (first | apply And.intro | intro _)))) | ((first | refine call_q e2 (by cbv) ?_ | refine call_pure e2 (by cbv) ?_); cbv; ((try simp only [IfP_iff, and_true, true_and, decide_eq_true_eq, decide_eq_false_iff_not]); (try simp only [natc, getI_gi, at2_0, at2_1]); (try dsimp only [Ty.den]); (try simp only [natc] at *); (repeat' (first | apply And.intro | intro _)))) | ((first | refine call_q (Spec2.aggM (t := .pr (.sl (.sl .int)) (.sl (.sl .int))) (x := fun _ => (N, M)) e2) (by cbv) ?_ | refine call_pure (Spec2.aggM (t := .pr (.sl (.sl .int)) (.sl (.sl .int))) (x := fun _ => (N, M)) e2) (by cbv) ?_); cbv; ((try simp only [IfP_iff, and_true, true_and, decide_eq_true_eq, decide_eq_false_iff_not]); (try simp only [natc, getI_gi, at2_0, at2_1]); (try dsimp only [Ty.den]); (try simp only [natc] at *); (repeat' (first | apply And.intro | intro _))))))
    all_goals (try (simp only [IfP_iff, EqU_iff, Obl_iff, and_true, true_and, inI_iff, decide_eq_true_eq, decide_eq_false_iff_not]; (try simp only [natc, getI_gi, at2_0, at2_1]); (try dsimp only [Ty.den]); try simp only [natc] at *))
    all_goals (try (exact absurd (by assumption : true = false) (by decide)))
    all_goals (trace_state)
theorem sp_mapGood (n nh : Int) (l lh : List (Int × Int)) (hl : l.length ≤ 1048576) (hh : lh.length ≤ 1048576) : Spec2 Try.prog 62 [.agg (.pr .int (.sl (.pr .int .int))) fun _ => (n, l), .agg (.pr .int (.sl (.pr .int .int))) fun _ => (nh, lh)] [] [.bool fun _ => okMap n l nh lh] [] := by
  have e1 := sp_good n l hl
  have e2 := sp_good nh lh hh
  have t : okMap n l nh lh = (graphOk n l && graphOk nh lh && decide (n ≤ 6)) := rfl
  generalize okMap n l nh lh = r at *
  generalize graphOk n l = a at *
  generalize graphOk nh lh = b at *
  refine fnS [] [4] Try.func62 rfl (by decide) rfl (by decide) (by kernel_rfl) rfl (by simp [Try.ntmps62]) ?_
  cbv
  ((try simp only [IfP_iff, and_true, true_and, decide_eq_true_eq, decide_eq_false_iff_not]); (try simp only [natc, getI_gi, at2_0, at2_1]); (try dsimp only [Ty.den]); (try simp only [natc] at *); (repeat' (first | apply And.intro | intro _)))
  all_goals (repeat' (first | ((first | refine call_q e1 (by cbv) ?_ | refine call_pure e1 (by cbv) ?_); cbv; ((try simp only [IfP_iff, and_true, true_and, decide_eq_true_eq, decide_eq_false_iff_not]); (try simp only [natc, getI_gi, at2_0, at2_1]); (try dsimp only [Ty.den]); (try simp only [natc] at *); (repeat' (first | apply And.intro | intro _)))) | ((first | refine call_q e2 (by cbv) ?_ | refine call_pure e2 (by cbv) ?_); cbv; ((try simp only [IfP_iff, and_true, true_and, decide_eq_true_eq, decide_eq_false_iff_not]); (try simp only [natc, getI_gi, at2_0, at2_1]); (try dsimp only [Ty.den]); (try simp only [natc] at *); (repeat' (first | apply And.intro | intro _))))))
  all_goals (try (simp only [IfP_iff, EqU_iff, Obl_iff, and_true, true_and, inI_iff, decide_eq_true_eq, decide_eq_false_iff_not]; (try simp only [natc, getI_gi, at2_0, at2_1]); (try dsimp only [Ty.den]); try simp only [natc] at *))
  all_goals ((repeat' (first | apply And.intro | intro _)) <;> first | omega | (rw [t]; simp [*]; done) | trace_state)
theorem sp_mapFits (nh : Int) (lh : List (Int × Int)) (a b : Int) (lz : Bool) (hh : lh.length ≤ 1048576) : Spec2 Try.prog 105 [.agg (.pr .int (.sl (.pr .int .int))) fun _ => (nh, lh), .int fun _ => a, .int fun _ => b, .bool fun _ => lz] [] [.bool fun _ => fitsB lh lz a b] [] := by
  have e1 := sp_near nh lh a b hh
  have t : fitsB lh lz a b = (nearB lh a b || (lz && decide (a = b))) := rfl
  generalize fitsB lh lz a b = r at *
  generalize nearB lh a b = q at *
  refine fnS [] [8] Try.func105 rfl (by decide) rfl (by decide) (by kernel_rfl) rfl (by simp [Try.ntmps105]) ?_
  cbv
  ((try simp only [IfP_iff, and_true, true_and, decide_eq_true_eq, decide_eq_false_iff_not]); (try simp only [natc, getI_gi, at2_0, at2_1]); (try dsimp only [Ty.den]); (try simp only [natc] at *); (repeat' (first | apply And.intro | intro _)))
  all_goals (repeat' (first | ((first | refine call_q e1 (by cbv) ?_ | refine call_pure e1 (by cbv) ?_); cbv; ((try simp only [IfP_iff, and_true, true_and, decide_eq_true_eq, decide_eq_false_iff_not]); (try simp only [natc, getI_gi, at2_0, at2_1]); (try dsimp only [Ty.den]); (try simp only [natc] at *); (repeat' (first | apply And.intro | intro _))))))
  all_goals (try (simp only [IfP_iff, EqU_iff, Obl_iff, and_true, true_and, inI_iff, decide_eq_true_eq, decide_eq_false_iff_not]; (try simp only [natc, getI_gi, at2_0, at2_1]); (try dsimp only [Ty.den]); try simp only [natc] at *))
  all_goals ((repeat' (first | apply And.intro | intro _)) <;> first | omega | (rw [t]; simp [*]; done) | trace_state)
theorem sp_l10Map (n nh : Int) (l lh : List (Int × Int)) (L : List Int) (lz : Bool) (hl : l.length ≤ 1048576) (hh : lh.length ≤ 1048576) (hL : L.length ≤ 1048576) (hb : okMap n l nh lh = true) : Spec2 Try.prog 63 [.agg (.pr .int (.sl (.pr .int .int))) fun _ => (n, l), .agg (.pr .int (.sl (.pr .int .int))) fun _ => (nh, lh), .sl .int fun _ => L, .bool fun _ => lz] [] [.bool fun _ => mapB n l nh lh L lz] [] := by
  obtain ⟨hg, hk, n6⟩ := okMap_get hb
  obtain ⟨⟨g0, g1⟩, g2, _⟩ := graph_edges hg
  obtain ⟨⟨h0, h1⟩, _, _⟩ := graph_edges hk
  have he : ∀ i : Int, 0 ≤ i → i < (l.length : Int) → 0 ≤ (getI (.pr .int .int) l i).1 ∧ (getI (.pr .int .int) l i).1 < (getI (.pr .int .int) l i).2 ∧ (getI (.pr .int .int) l i).2 < n := fun i a b => g2 _ (List.mem_of_getElem? (getI_get (t := .pr .int .int) a b))
  have t : mapB n l nh lh L lz = (allTo (rngB nh L) L.length && (decide ((L.length : Int) = n) && allTo (edgB l lh L lz) l.length)) := rfl
  have r0 : ∀ k : Int, rngB nh L k = (decide (0 ≤ gi L k) && decide (gi L k ≤ nh - 1)) := fun _ => rfl
  have q0 : ∀ i : Int, edgB l lh L lz i = fitsB lh lz (gi L (getI (.pr .int .int) l i).1) (gi L (getI (.pr .int .int) l i).2) := fun _ => rfl
  have e1 := fun k => sp_in (gi L k) 0 (nh - 1)
  have e2 := fun i => sp_mapFits nh lh (gi L (getI (.pr .int .int) l i).1) (gi L (getI (.pr .int .int) l i).2) lz hh
  generalize mapB n l nh lh L lz = r at *
  generalize rngB nh L = P at *
  generalize edgB l lh L lz = Q at *
  generalize fitsB lh lz = W at *
  clear g2 hg hk hb
  refine fnS [] [8] Try.func63 rfl (by decide) rfl (by decide) (by kernel_rfl) rfl (by simp [Try.ntmps63]) ?_
  cbv
  refine loopP (by kernel_rfl) (fun k : Int => 0 ≤ k ∧ k ≤ L.length ∧ allTo P k.toNat = true) (fun k => [(9, .int fun _ => k)]) (fun _ => []) (fun k => (L.length - k).toNat) (· + 1) 0 (by refine ⟨by omega, by omega, rfl⟩) ?_ ?_
  · cbv
    (simp only [IfP_iff, EqU_iff, Obl_iff, and_true, true_and, inI_iff, decide_eq_true_eq, decide_eq_false_iff_not]; (try simp only [natc, getI_gi, at2_0, at2_1]); (try dsimp only [Ty.den]); try simp only [natc] at *)
  · intro k hk
    have a2 : k < (L.length : Int) → P k = true → allTo P (k + 1).toNat = true := fun h h2 => by
      rw [show (k + 1).toNat = k.toNat + 1 by omega, allTo_next, hk.2.2, show ((k.toNat : Nat) : Int) = k by omega, h2]
      rfl
    have a3 : k < (L.length : Int) → (!(decide (0 ≤ gi L k) && decide (gi L k ≤ nh - 1))) = true → false = r := fun h h2 => by rw [t, allTo_bad hk.1 h (by rw [r0 k, notT h2])]; rfl
    have a4 : k < (L.length : Int) → (!(decide (0 ≤ gi L k) && decide (gi L k ≤ nh - 1))) = false → allTo P (k + 1).toNat = true := fun h h2 => a2 h (by rw [r0 k, notF h2])
    have a5 : ¬ k < (L.length : Int) → allTo P L.length = true := fun h => by rw [← hk.2.2, show k.toNat = L.length by omega]
    have a6 : ¬ k < (L.length : Int) → (!decide ((L.length : Int) = n)) = true → false = r := fun h h2 => by rw [t, notT h2, Bool.false_and, Bool.and_false]
    have k0 := hk.1
    have k1 := hk.2.1
    have e3 := e1 k
    clear hk e1 a2 r0
    cbv
    ((try simp only [IfP_iff, and_true, true_and, decide_eq_true_eq, decide_eq_false_iff_not]); (try simp only [natc, getI_gi, at2_0, at2_1]); (try dsimp only [Ty.den]); (try simp only [natc] at *); (repeat' (first | apply And.intro | intro _)))
    all_goals (repeat' (first | ((first | refine call_q e3 (by cbv) ?_ | refine call_pure e3 (by cbv) ?_); cbv; ((try simp only [IfP_iff, and_true, true_and, decide_eq_true_eq, decide_eq_false_iff_not]); (try simp only [natc, getI_gi, at2_0, at2_1]); (try dsimp only [Ty.den]); (try simp only [natc] at *); (repeat' (first | apply And.intro | intro _))))))
    all_goals (try ((try simp only [IfP_iff, and_true, true_and, decide_eq_true_eq, decide_eq_false_iff_not]); (try simp only [natc, getI_gi, at2_0, at2_1]); (try dsimp only [Ty.den]); (try simp only [natc] at *); (repeat' (first | apply And.intro | intro _))))
    all_goals (try (show EqU _ _; (simp only [IfP_iff, EqU_iff, Obl_iff, and_true, true_and, inI_iff, decide_eq_true_eq, decide_eq_false_iff_not]; (try simp only [natc, getI_gi, at2_0, at2_1]); (try dsimp only [Ty.den]); try simp only [natc] at *); exact a3 (by assumption) (by assumption)))
    all_goals (try (show EqU _ _; exact EqU_iff.2 rfl))
    all_goals (try (show Obl _; (simp only [IfP_iff, EqU_iff, Obl_iff, and_true, true_and, inI_iff, decide_eq_true_eq, decide_eq_false_iff_not]; (try simp only [natc, getI_gi, at2_0, at2_1]); (try dsimp only [Ty.den]); try simp only [natc] at *); ((repeat' (first | apply And.intro | intro _)) <;> first | omega | exact a4 (by assumption) (by assumption))))
    all_goals (try (show EqU _ _; (simp only [IfP_iff, EqU_iff, Obl_iff, and_true, true_and, inI_iff, decide_eq_true_eq, decide_eq_false_iff_not]; (try simp only [natc, getI_gi, at2_0, at2_1]); (try dsimp only [Ty.den]); try simp only [natc] at *); exact a6 (by assumption) (by assumption)))
    have hkL : ¬ k < (L.length : Int) := by assumption
    have hn : (L.length : Int) = n := by
      have := notF (by assumption : (!decide ((L.length : Int) = n)) = false)
      simpa using this
    have tA := a5 hkL
    refine loopP (by kernel_rfl) (fun i : Int => 0 ≤ i ∧ i ≤ l.length ∧ allTo Q i.toNat = true) (fun i => [(10, .int fun _ => i)]) (fun _ => []) (fun i => (l.length - i).toNat) (· + 1) 0 (by refine ⟨by omega, by omega, rfl⟩) ?_ ?_
    · cbv
      (simp only [IfP_iff, EqU_iff, Obl_iff, and_true, true_and, inI_iff, decide_eq_true_eq, decide_eq_false_iff_not]; (try simp only [natc, getI_gi, at2_0, at2_1]); (try dsimp only [Ty.den]); try simp only [natc] at *)
    · intro i hi
      have b1 : ¬ i < (l.length : Int) → true = r := fun h => by rw [t, tA, decide_eq_true hn, show l.length = i.toNat by omega, hi.2.2]; rfl
      have b2 : i < (l.length : Int) → (!W (gi L (getI (.pr .int .int) l i).1) (gi L (getI (.pr .int .int) l i).2)) = true → false = r := fun h h2 => by rw [t, allTo_bad (p := Q) hi.1 h (by rw [q0 i, notT h2]), Bool.and_false, Bool.and_false]
      have b3 : i < (l.length : Int) → (!W (gi L (getI (.pr .int .int) l i).1) (gi L (getI (.pr .int .int) l i).2)) = false → allTo Q (i + 1).toNat = true := fun h h2 => by
        rw [show (i + 1).toNat = i.toNat + 1 by omega, allTo_next, hi.2.2, show ((i.toNat : Nat) : Int) = i by omega, q0 i, notF h2]
        rfl
      have b4 : i < (l.length : Int) → 0 ≤ (getI (.pr .int .int) l i).1 ∧ (getI (.pr .int .int) l i).1 < (L.length : Int) ∧ 0 ≤ (getI (.pr .int .int) l i).2 ∧ (getI (.pr .int .int) l i).2 < (L.length : Int) := fun h => by
        have h3 := he i hi.1 h
        rw [hn]
        exact ⟨h3.1, Int.lt_trans h3.2.1 h3.2.2, Int.le_trans h3.1 (Int.le_of_lt h3.2.1), h3.2.2⟩
      have i0 := hi.1
      have i1 := hi.2.1
      have e4 := e2 i
      clear hi e2 he q0 t a3 a4 a5 a6 tA
      cbv
      ((try simp only [IfP_iff, and_true, true_and, decide_eq_true_eq, decide_eq_false_iff_not]); (try simp only [natc, getI_gi, at2_0, at2_1]); (try dsimp only [Ty.den]); (try simp only [natc] at *); (repeat' (first | apply And.intro | intro _)))
      all_goals (repeat' (first | ((first | refine call_q e4 (by cbv) ?_ | refine call_pure e4 (by cbv) ?_); cbv; ((try simp only [IfP_iff, and_true, true_and, decide_eq_true_eq, decide_eq_false_iff_not]); (try simp only [natc, getI_gi, at2_0, at2_1]); (try dsimp only [Ty.den]); (try simp only [natc] at *); (repeat' (first | apply And.intro | intro _))))))
      all_goals (try ((try simp only [IfP_iff, and_true, true_and, decide_eq_true_eq, decide_eq_false_iff_not]); (try simp only [natc, getI_gi, at2_0, at2_1]); (try dsimp only [Ty.den]); (try simp only [natc] at *); (repeat' (first | apply And.intro | intro _))))
      all_goals (try (show EqU _ _; exact EqU_iff.2 rfl))
      all_goals (try (simp only [IfP_iff, EqU_iff, Obl_iff, and_true, true_and, inI_iff, decide_eq_true_eq, decide_eq_false_iff_not]; (try simp only [natc, getI_gi, at2_0, at2_1]); (try dsimp only [Ty.den]); try simp only [natc] at *))
      all_goals ((repeat' (first | apply And.intro | intro _)) <;> first | omega | exact b1 (by assumption) | exact b2 (by assumption) (by assumption) | exact b3 (by assumption) (by assumption) | (have q := b4 (by assumption); omega) | (have q := b4 (by assumption); exact q.1) | (have q := b4 (by assumption); exact q.2.1) | (have q := b4 (by assumption); exact q.2.2.1) | (have q := b4 (by assumption); exact q.2.2.2) | trace_state)
theorem sp_isMap (n nh : Int) (l lh : List (Int × Int)) (L : List Int) (lz : Bool) (hl : l.length ≤ 1048576) (hh : lh.length ≤ 1048576) (hL : L.length ≤ 1048576) : Spec2 Try.prog 25 [.agg (.pr .int (.sl (.pr .int .int))) fun _ => (n, l), .agg (.pr .int (.sl (.pr .int .int))) fun _ => (nh, lh), .sl .int fun _ => L, .bool fun _ => lz] [] [.bool fun _ => isMapB n l nh lh L lz, .bool fun _ => okMap n l nh lh] [] := by
  have e0 := sp_mapGood n nh l lh hl hh
  cases hb : okMap n l nh lh with
  | false =>
    rw [show isMapB n l nh lh L lz = false by unfold isMapB; rw [hb]; rfl]
    rw [hb] at e0
    refine fnS [] [8, 9] Try.func25 rfl (by decide) rfl (by decide) (by kernel_rfl) rfl (by simp [Try.ntmps25]) ?_
    cbv
    ((try simp only [IfP_iff, and_true, true_and, decide_eq_true_eq, decide_eq_false_iff_not]); (try simp only [natc, getI_gi, at2_0, at2_1]); (try dsimp only [Ty.den]); (try simp only [natc] at *); (repeat' (first | apply And.intro | intro _)))
    all_goals (repeat' (first | ((first | refine call_q e0 (by cbv) ?_ | refine call_pure e0 (by cbv) ?_); cbv; ((try simp only [IfP_iff, and_true, true_and, decide_eq_true_eq, decide_eq_false_iff_not]); (try simp only [natc, getI_gi, at2_0, at2_1]); (try dsimp only [Ty.den]); (try simp only [natc] at *); (repeat' (first | apply And.intro | intro _))))))
    all_goals (try (exact absurd (by assumption : (!false) = false) (by decide)))
    all_goals (try (simp only [IfP_iff, EqU_iff, Obl_iff, and_true, true_and, inI_iff, decide_eq_true_eq, decide_eq_false_iff_not]; (try simp only [natc, getI_gi, at2_0, at2_1]); (try dsimp only [Ty.den]); try simp only [natc] at *))
  | true =>
    rw [show isMapB n l nh lh L lz = mapB n l nh lh L lz by unfold isMapB; rw [hb]; rfl]
    have e1 := sp_l10Map n nh l lh L lz hl hh hL hb
    rw [hb] at e0
    generalize mapB n l nh lh L lz = r at *
    refine fnS [] [8, 9] Try.func25 rfl (by decide) rfl (by decide) (by kernel_rfl) rfl (by simp [Try.ntmps25]) ?_
    cbv
    ((try simp only [IfP_iff, and_true, true_and, decide_eq_true_eq, decide_eq_false_iff_not]); (try simp only [natc, getI_gi, at2_0, at2_1]); (try dsimp only [Ty.den]); (try simp only [natc] at *); (repeat' (first | apply And.intro | intro _)))
    all_goals (repeat' (first | ((first | refine call_q e0 (by cbv) ?_ | refine call_pure e0 (by cbv) ?_); cbv; ((try simp only [IfP_iff, and_true, true_and, decide_eq_true_eq, decide_eq_false_iff_not]); (try simp only [natc, getI_gi, at2_0, at2_1]); (try dsimp only [Ty.den]); (try simp only [natc] at *); (repeat' (first | apply And.intro | intro _)))) | ((first | refine call_q e1 (by cbv) ?_ | refine call_pure e1 (by cbv) ?_); cbv; ((try simp only [IfP_iff, and_true, true_and, decide_eq_true_eq, decide_eq_false_iff_not]); (try simp only [natc, getI_gi, at2_0, at2_1]); (try dsimp only [Ty.den]); (try simp only [natc] at *); (repeat' (first | apply And.intro | intro _))))))
    all_goals (try (exact absurd (by assumption : (!true) = true) (by decide)))
    all_goals (try (simp only [IfP_iff, EqU_iff, Obl_iff, and_true, true_and, inI_iff, decide_eq_true_eq, decide_eq_false_iff_not]; (try simp only [natc, getI_gi, at2_0, at2_1]); (try dsimp only [Ty.den]); try simp only [natc] at *))
end Go.Proofs.Ytikclhackjjhfaa.M
/- AfterMap: both sides. -/
namespace Go.Proofs.Ytikclhackjjhfaa.M
open Go.RowKit Abs
set_option linter.unusedSimpArgs false
set_option linter.unusedVariables false
set_option maxRecDepth 100000
set_option maxHeartbeats 4000000
def aftB (n : Int) (l : List (Int × Int)) (nh : Int) (lh : List (Int × Int)) (nk : Int) (lk : List (Int × Int)) (a b : List Int) (lz : Bool) : Bool := isMapB n l nh lh a lz && isMapB nh lh nk lk b lz
def aftR (n : Int) (l : List (Int × Int)) (nh : Int) (lh : List (Int × Int)) (nk : Int) (lk : List (Int × Int)) (a b : List Int) (lz : Bool) : List Int := if aftB n l nh lh nk lk a b lz = true then a.map (gi b) else []
theorem aft_in {n nh nk : Int} {l lh lk : List (Int × Int)} {a b : List Int} {lz : Bool} (h : aftB n l nh lh nk lk a b lz = true) : (∀ k : Int, 0 ≤ k → k < (a.length : Int) → 0 ≤ gi a k ∧ gi a k < (b.length : Int)) ∧ okMap n l nh lh = true ∧ okMap nh lh nk lk = true ∧ mapB n l nh lh a lz = true ∧ mapB nh lh nk lk b lz = true ∧ a.length ≤ 8 := by
  unfold aftB isMapB at h
  simp only [Bool.and_eq_true] at h
  obtain ⟨⟨o1, m1⟩, o2, m2⟩ := h
  have h1 := m1
  have h2 := m2
  unfold mapB at h1 h2
  simp only [Bool.and_eq_true, decide_eq_true_eq, allTo_iff] at h1 h2
  have g := okMap_get o1
  have g1 := (graph_edges g.1).1
  refine ⟨fun k k0 k1 => ?_, o1, o2, m1, m2, by omega⟩
  have := h1.1 k k0 k1
  unfold rngB at this
  simp only [Bool.and_eq_true, decide_eq_true_eq] at this
  omega
theorem map_take {b a : List Int} {k : Int} (h0 : 0 ≤ k) (h1 : k < (a.length : Int)) : (a.take k.toNat).map (gi b) ++ [gi b (gi a k)] = (a.take (k + 1).toNat).map (gi b) := by
  rw [take_gi h0 h1, List.map_append]
  rfl
theorem im_afterMap (n nh nk : Int) (l lh lk : List (Int × Int)) (a b : List Int) (lz : Bool) (hl : l.length ≤ 1048576) (hh : lh.length ≤ 1048576) (hk : lk.length ≤ 1048576) (ha : a.length ≤ 1048576) (hb : b.length ≤ 1048576) : Spec2 Try.prog 30 [.agg (.pr .int (.sl (.pr .int .int))) fun _ => (n, l), .agg (.pr .int (.sl (.pr .int .int))) fun _ => (nh, lh), .agg (.pr .int (.sl (.pr .int .int))) fun _ => (nk, lk), .sl .int fun _ => a, .sl .int fun _ => b, .bool fun _ => lz] [] [.ref 0, .bool fun _ => aftB n l nh lh nk lk a b lz] [some (.row 3 .int fun _ => aftR n l nh lh nk lk a b lz)] := by
  have e1 := im_isMap n nh l lh a lz hl hh ha
  have e2 := im_isMap nh nk lh lk b lz hh hk hb
  cases hc : aftB n l nh lh nk lk a b lz with
  | false =>
    rw [show aftR n l nh lh nk lk a b lz = [] by unfold aftR; rw [hc]; rfl]
    have hno : (!isMapB n l nh lh a lz) = false → (!isMapB nh lh nk lk b lz) = false → False := fun h1 h2 => by
      unfold aftB at hc
      rw [notF h1, notF h2] at hc
      exact Bool.noConfusion hc
    generalize isMapB n l nh lh a lz = r1 at *
    generalize isMapB nh lh nk lk b lz = r2 at *
    refine fnS [3] [12, 13] Try.func30 rfl (by decide) rfl (by decide) (by kernel_rfl) rfl (by simp [Try.ntmps30]) ?_
    cbv
    ((try simp only [IfP_iff, and_true, true_and, decide_eq_true_eq, decide_eq_false_iff_not]); (try simp only [natc, getI_gi, at2_0, at2_1]); (try dsimp only [Ty.den]); (try simp only [natc] at *); (repeat' (first | apply And.intro | intro _)))
    all_goals (repeat' (first | ((first | refine call_q e1 (by cbv) ?_ | refine call_pure e1 (by cbv) ?_); cbv; ((try simp only [IfP_iff, and_true, true_and, decide_eq_true_eq, decide_eq_false_iff_not]); (try simp only [natc, getI_gi, at2_0, at2_1]); (try dsimp only [Ty.den]); (try simp only [natc] at *); (repeat' (first | apply And.intro | intro _)))) | ((first | refine call_q e2 (by cbv) ?_ | refine call_pure e2 (by cbv) ?_); cbv; ((try simp only [IfP_iff, and_true, true_and, decide_eq_true_eq, decide_eq_false_iff_not]); (try simp only [natc, getI_gi, at2_0, at2_1]); (try dsimp only [Ty.den]); (try simp only [natc] at *); (repeat' (first | apply And.intro | intro _))))))
    all_goals (try (exact (hno (by assumption) (by assumption)).elim))
    all_goals (try (simp only [IfP_iff, EqU_iff, Obl_iff, and_true, true_and, inI_iff, decide_eq_true_eq, decide_eq_false_iff_not]; (try simp only [natc, getI_gi, at2_0, at2_1]); (try dsimp only [Ty.den]); try simp only [natc] at *))
    all_goals (first | rfl | exact ⟨rfl, rfl⟩ | trace_state)
  | true =>
    obtain ⟨hin, o1, o2, m1, m2, a8⟩ := aft_in hc
    rw [show aftR n l nh lh nk lk a b lz = a.map (gi b) by unfold aftR; rw [if_pos hc]]
    rw [show isMapB n l nh lh a lz = true by unfold isMapB; rw [o1, m1]; rfl] at e1
    rw [show isMapB nh lh nk lk b lz = true by unfold isMapB; rw [o2, m2]; rfl] at e2
    clear hc o1 o2 m1 m2
    refine fnS [3] [12, 13] Try.func30 rfl (by decide) rfl (by decide) (by kernel_rfl) rfl (by simp [Try.ntmps30]) ?_
    cbv
    ((try simp only [IfP_iff, and_true, true_and, decide_eq_true_eq, decide_eq_false_iff_not]); (try simp only [natc, getI_gi, at2_0, at2_1]); (try dsimp only [Ty.den]); (try simp only [natc] at *); (repeat' (first | apply And.intro | intro _)))
    all_goals (repeat' (first | ((first | refine call_q e1 (by cbv) ?_ | refine call_pure e1 (by cbv) ?_); cbv; ((try simp only [IfP_iff, and_true, true_and, decide_eq_true_eq, decide_eq_false_iff_not]); (try simp only [natc, getI_gi, at2_0, at2_1]); (try dsimp only [Ty.den]); (try simp only [natc] at *); (repeat' (first | apply And.intro | intro _)))) | ((first | refine call_q e2 (by cbv) ?_ | refine call_pure e2 (by cbv) ?_); cbv; ((try simp only [IfP_iff, and_true, true_and, decide_eq_true_eq, decide_eq_false_iff_not]); (try simp only [natc, getI_gi, at2_0, at2_1]); (try dsimp only [Ty.den]); (try simp only [natc] at *); (repeat' (first | apply And.intro | intro _))))))
    all_goals (try (exact absurd (by assumption : (!true) = true) (by decide)))
    refine loopP (by kernel_rfl) (fun k : Int => 0 ≤ k ∧ k ≤ a.length) (fun k => [(47, .int fun _ => k), (18, .ref 3), (44, .junk)]) (fun k => [(3, some (.row 3 .int fun _ => (a.take k.toNat).map (gi b)))]) (fun k => (a.length - k).toNat) (· + 1) 0 (by omega) ?_ ?_
    · cbv
      (simp only [IfP_iff, EqU_iff, Obl_iff, and_true, true_and, inI_iff, decide_eq_true_eq, decide_eq_false_iff_not]; (try simp only [natc, getI_gi, at2_0, at2_1]); (try dsimp only [Ty.den]); try simp only [natc] at *)
      all_goals (first | rfl | trace_state)
    · intro k hk
      have c1 := hin k hk.1
      have c3 : k < (a.length : Int) → (a.take k.toNat).map (gi b) ++ [gi b (gi a k)] = (a.take (k + 1).toNat).map (gi b) := fun h => map_take hk.1 h
      have c4 : ¬ k < (a.length : Int) → (a.take k.toNat).map (gi b) = a.map (gi b) := fun h => by rw [List.take_of_length_le (by omega)]
      have c5 : ((((a.take k.toNat).map (gi b)).length : Nat) : Int) = k := by rw [List.length_map, List.length_take]; omega
      have hk1 := hk.1
      have hk2 := hk.2
      clear hk hin
      cbv
      ((try simp only [IfP_iff, and_true, true_and, decide_eq_true_eq, decide_eq_false_iff_not]); (try simp only [natc, getI_gi, at2_0, at2_1]); (try dsimp only [Ty.den]); (try simp only [natc] at *); (repeat' (first | apply And.intro | intro _)))
      all_goals (try (simp only [IfP_iff, EqU_iff, Obl_iff, and_true, true_and, inI_iff, decide_eq_true_eq, decide_eq_false_iff_not]; (try simp only [natc, getI_gi, at2_0, at2_1]); (try dsimp only [Ty.den]); try simp only [natc] at *))
      all_goals ((repeat' (first | apply And.intro | intro _)) <;> first | omega | (exact c3 (by assumption)) | (exact c4 (by assumption)) | (have q1 := c1 (by assumption); omega) | (simp only [List.length_cons, List.length_nil]; omega) | trace_state)
theorem sp_afterMap (n nh nk : Int) (l lh lk : List (Int × Int)) (a b : List Int) (lz : Bool) (hl : l.length ≤ 1048576) (hh : lh.length ≤ 1048576) (hk : lk.length ≤ 1048576) (ha : a.length ≤ 1048576) (hb : b.length ≤ 1048576) : Spec2 Try.prog 29 [.agg (.pr .int (.sl (.pr .int .int))) fun _ => (n, l), .agg (.pr .int (.sl (.pr .int .int))) fun _ => (nh, lh), .agg (.pr .int (.sl (.pr .int .int))) fun _ => (nk, lk), .sl .int fun _ => a, .sl .int fun _ => b, .bool fun _ => lz] [] [.ref 0, .bool fun _ => aftB n l nh lh nk lk a b lz] [some (.row 3 .int fun _ => aftR n l nh lh nk lk a b lz)] := by
  have e1 := sp_mapGood n nh l lh hl hh
  have e2 := sp_mapGood nh nk lh lk hh hk
  have e3 := sp_l10Map n nh l lh a lz hl hh ha
  have e4 := sp_l10Map nh nk lh lk b lz hh hk hb
  cases hc : aftB n l nh lh nk lk a b lz with
  | false =>
    rw [show aftR n l nh lh nk lk a b lz = [] by unfold aftR; rw [hc]; rfl]
    have hno : (!okMap n l nh lh) = false → (!okMap nh lh nk lk) = false → (!mapB n l nh lh a lz) = false → (!mapB nh lh nk lk b lz) = false → False := fun h1 h2 h3 h4 => by
      unfold aftB isMapB at hc
      rw [notF h1, notF h2, notF h3, notF h4] at hc
      exact Bool.noConfusion hc
    generalize okMap n l nh lh = r1 at *
    generalize okMap nh lh nk lk = r2 at *
    generalize mapB n l nh lh a lz = r3 at *
    generalize mapB nh lh nk lk b lz = r4 at *
    refine fnS [3] [12, 13] Try.func29 rfl (by decide) rfl (by decide) (by kernel_rfl) rfl (by simp [Try.ntmps29]) ?_
    cbv
    ((try simp only [IfP_iff, and_true, true_and, decide_eq_true_eq, decide_eq_false_iff_not]); (try simp only [natc, getI_gi, at2_0, at2_1]); (try dsimp only [Ty.den]); (try simp only [natc] at *); (repeat' (first | apply And.intro | intro _)))
    all_goals (repeat' (first | ((first | refine call_q e1 (by cbv) ?_ | refine call_pure e1 (by cbv) ?_); cbv; ((try simp only [IfP_iff, and_true, true_and, decide_eq_true_eq, decide_eq_false_iff_not]); (try simp only [natc, getI_gi, at2_0, at2_1]); (try dsimp only [Ty.den]); (try simp only [natc] at *); (repeat' (first | apply And.intro | intro _)))) | ((first | refine call_q e2 (by cbv) ?_ | refine call_pure e2 (by cbv) ?_); cbv; ((try simp only [IfP_iff, and_true, true_and, decide_eq_true_eq, decide_eq_false_iff_not]); (try simp only [natc, getI_gi, at2_0, at2_1]); (try dsimp only [Ty.den]); (try simp only [natc] at *); (repeat' (first | apply And.intro | intro _)))) | ((first | refine call_q (e3 (notF (by assumption))) (by cbv) ?_ | refine call_pure (e3 (notF (by assumption))) (by cbv) ?_); cbv; ((try simp only [IfP_iff, and_true, true_and, decide_eq_true_eq, decide_eq_false_iff_not]); (try simp only [natc, getI_gi, at2_0, at2_1]); (try dsimp only [Ty.den]); (try simp only [natc] at *); (repeat' (first | apply And.intro | intro _)))) | ((first | refine call_q (e4 (notF (by assumption))) (by cbv) ?_ | refine call_pure (e4 (notF (by assumption))) (by cbv) ?_); cbv; ((try simp only [IfP_iff, and_true, true_and, decide_eq_true_eq, decide_eq_false_iff_not]); (try simp only [natc, getI_gi, at2_0, at2_1]); (try dsimp only [Ty.den]); (try simp only [natc] at *); (repeat' (first | apply And.intro | intro _))))))
    all_goals (try (exact (hno (by assumption) (by assumption) (by assumption) (by assumption)).elim))
    all_goals (try (simp only [IfP_iff, EqU_iff, Obl_iff, and_true, true_and, inI_iff, decide_eq_true_eq, decide_eq_false_iff_not]; (try simp only [natc, getI_gi, at2_0, at2_1]); (try dsimp only [Ty.den]); try simp only [natc] at *))
    all_goals (first | rfl | exact ⟨rfl, rfl⟩ | trace_state)
  | true =>
    obtain ⟨hin, o1, o2, m1, m2, a8⟩ := aft_in hc
    rw [show aftR n l nh lh nk lk a b lz = a.map (gi b) by unfold aftR; rw [if_pos hc]]
    have e3 := e3 o1
    have e4 := e4 o2
    rw [o1] at e1
    rw [o2] at e2
    rw [m1] at e3
    rw [m2] at e4
    clear hc o1 o2 m1 m2
    refine fnS [3] [12, 13] Try.func29 rfl (by decide) rfl (by decide) (by kernel_rfl) rfl (by simp [Try.ntmps29]) ?_
    cbv
    ((try simp only [IfP_iff, and_true, true_and, decide_eq_true_eq, decide_eq_false_iff_not]); (try simp only [natc, getI_gi, at2_0, at2_1]); (try dsimp only [Ty.den]); (try simp only [natc] at *); (repeat' (first | apply And.intro | intro _)))
    all_goals (repeat' (first | ((first | refine call_q e1 (by cbv) ?_ | refine call_pure e1 (by cbv) ?_); cbv; ((try simp only [IfP_iff, and_true, true_and, decide_eq_true_eq, decide_eq_false_iff_not]); (try simp only [natc, getI_gi, at2_0, at2_1]); (try dsimp only [Ty.den]); (try simp only [natc] at *); (repeat' (first | apply And.intro | intro _)))) | ((first | refine call_q e2 (by cbv) ?_ | refine call_pure e2 (by cbv) ?_); cbv; ((try simp only [IfP_iff, and_true, true_and, decide_eq_true_eq, decide_eq_false_iff_not]); (try simp only [natc, getI_gi, at2_0, at2_1]); (try dsimp only [Ty.den]); (try simp only [natc] at *); (repeat' (first | apply And.intro | intro _)))) | ((first | refine call_q e3 (by cbv) ?_ | refine call_pure e3 (by cbv) ?_); cbv; ((try simp only [IfP_iff, and_true, true_and, decide_eq_true_eq, decide_eq_false_iff_not]); (try simp only [natc, getI_gi, at2_0, at2_1]); (try dsimp only [Ty.den]); (try simp only [natc] at *); (repeat' (first | apply And.intro | intro _)))) | ((first | refine call_q e4 (by cbv) ?_ | refine call_pure e4 (by cbv) ?_); cbv; ((try simp only [IfP_iff, and_true, true_and, decide_eq_true_eq, decide_eq_false_iff_not]); (try simp only [natc, getI_gi, at2_0, at2_1]); (try dsimp only [Ty.den]); (try simp only [natc] at *); (repeat' (first | apply And.intro | intro _))))))
    all_goals (try (exact absurd (by assumption : (!true) = true) (by decide)))
    refine loopP (by kernel_rfl) (fun k : Int => 0 ≤ k ∧ k ≤ a.length) (fun k => [(15, .int fun _ => k), (14, .ref 3), (16, .junk)]) (fun k => [(3, some (.row 3 .int fun _ => (a.take k.toNat).map (gi b)))]) (fun k => (a.length - k).toNat) (· + 1) 0 (by omega) ?_ ?_
    · cbv
      (simp only [IfP_iff, EqU_iff, Obl_iff, and_true, true_and, inI_iff, decide_eq_true_eq, decide_eq_false_iff_not]; (try simp only [natc, getI_gi, at2_0, at2_1]); (try dsimp only [Ty.den]); try simp only [natc] at *)
      all_goals (first | rfl | trace_state)
    · intro k hk
      have c1 := hin k hk.1
      have c3 : k < (a.length : Int) → (a.take k.toNat).map (gi b) ++ [gi b (gi a k)] = (a.take (k + 1).toNat).map (gi b) := fun h => map_take hk.1 h
      have c4 : ¬ k < (a.length : Int) → (a.take k.toNat).map (gi b) = a.map (gi b) := fun h => by rw [List.take_of_length_le (by omega)]
      have c5 : ((((a.take k.toNat).map (gi b)).length : Nat) : Int) = k := by rw [List.length_map, List.length_take]; omega
      have hk1 := hk.1
      have hk2 := hk.2
      clear hk hin
      cbv
      ((try simp only [IfP_iff, and_true, true_and, decide_eq_true_eq, decide_eq_false_iff_not]); (try simp only [natc, getI_gi, at2_0, at2_1]); (try dsimp only [Ty.den]); (try simp only [natc] at *); (repeat' (first | apply And.intro | intro _)))
      all_goals (try (simp only [IfP_iff, EqU_iff, Obl_iff, and_true, true_and, inI_iff, decide_eq_true_eq, decide_eq_false_iff_not]; (try simp only [natc, getI_gi, at2_0, at2_1]); (try dsimp only [Ty.den]); try simp only [natc] at *))
      all_goals ((repeat' (first | apply And.intro | intro _)) <;> first | omega | (exact c3 (by assumption)) | (exact c4 (by assumption)) | (have q1 := c1 (by assumption); omega) | (simp only [List.length_cons, List.length_nil]; omega) | trace_state)
theorem aftR_len (n nh nk : Int) (l lh lk : List (Int × Int)) (a b : List Int) (lz : Bool) (ha : a.length ≤ 1048576) : (aftR n l nh lh nk lk a b lz).length ≤ 1048576 := by
  unfold aftR
  split
  · rw [List.length_map]; exact ha
  · simp
end Go.Proofs.Ytikclhackjjhfaa.M
/- IsMap, AfterMap: the order of the laws. -/
namespace Go.Proofs.Ytikclhackjjhfaa.M
open Go.RowKit Abs
set_option linter.unusedSimpArgs false
set_option linter.unusedVariables false
set_option maxRecDepth 100000
set_option maxHeartbeats 4000000
theorem spW_isMap (n : Int) (l : List (Int × Int)) (nh : Int) (lh : List (Int × Int)) (L : List Int) (lz : Bool) (hl : l.length ≤ 1048576) (hh : lh.length ≤ 1048576) (hL : L.length ≤ 1048576) : Spec2 Try.prog 25 [.agg (.pr .int (.sl (.pr .int .int))) fun _ => (n, l), .agg (.pr .int (.sl (.pr .int .int))) fun _ => (nh, lh), .sl .int fun _ => L, .bool fun _ => lz] [] [.bool fun _ => isMapB n l nh lh L lz, .bool fun _ => okMap n l nh lh] [] := sp_isMap n nh l lh L lz hl hh hL
theorem imW_isMap (n : Int) (l : List (Int × Int)) (nh : Int) (lh : List (Int × Int)) (L : List Int) (lz : Bool) (hl : l.length ≤ 1048576) (hh : lh.length ≤ 1048576) (hL : L.length ≤ 1048576) : Spec2 Try.prog 27 [.agg (.pr .int (.sl (.pr .int .int))) fun _ => (n, l), .agg (.pr .int (.sl (.pr .int .int))) fun _ => (nh, lh), .sl .int fun _ => L, .bool fun _ => lz] [] [.bool fun _ => isMapB n l nh lh L lz, .bool fun _ => okMap n l nh lh] [] := im_isMap n nh l lh L lz hl hh hL
theorem spW_afterMap (n : Int) (l : List (Int × Int)) (nh : Int) (lh : List (Int × Int)) (nk : Int) (lk : List (Int × Int)) (a b : List Int) (lz : Bool) (hl : l.length ≤ 1048576) (hh : lh.length ≤ 1048576) (hk : lk.length ≤ 1048576) (ha : a.length ≤ 1048576) (hb : b.length ≤ 1048576) : Spec2 Try.prog 29 [.agg (.pr .int (.sl (.pr .int .int))) fun _ => (n, l), .agg (.pr .int (.sl (.pr .int .int))) fun _ => (nh, lh), .agg (.pr .int (.sl (.pr .int .int))) fun _ => (nk, lk), .sl .int fun _ => a, .sl .int fun _ => b, .bool fun _ => lz] [] [.ref 0, .bool fun _ => aftB n l nh lh nk lk a b lz] [some (.row 3 .int fun _ => aftR n l nh lh nk lk a b lz)] := sp_afterMap n nh nk l lh lk a b lz hl hh hk ha hb
theorem imW_afterMap (n : Int) (l : List (Int × Int)) (nh : Int) (lh : List (Int × Int)) (nk : Int) (lk : List (Int × Int)) (a b : List Int) (lz : Bool) (hl : l.length ≤ 1048576) (hh : lh.length ≤ 1048576) (hk : lk.length ≤ 1048576) (ha : a.length ≤ 1048576) (hb : b.length ≤ 1048576) : Spec2 Try.prog 30 [.agg (.pr .int (.sl (.pr .int .int))) fun _ => (n, l), .agg (.pr .int (.sl (.pr .int .int))) fun _ => (nh, lh), .agg (.pr .int (.sl (.pr .int .int))) fun _ => (nk, lk), .sl .int fun _ => a, .sl .int fun _ => b, .bool fun _ => lz] [] [.ref 0, .bool fun _ => aftB n l nh lh nk lk a b lz] [some (.row 3 .int fun _ => aftR n l nh lh nk lk a b lz)] := im_afterMap n nh nk l lh lk a b lz hl hh hk ha hb
theorem aftW_len (n : Int) (l : List (Int × Int)) (nh : Int) (lh : List (Int × Int)) (nk : Int) (lk : List (Int × Int)) (a b : List Int) (lz : Bool) (hl : l.length ≤ 1048576) (hh : lh.length ≤ 1048576) (hk : lk.length ≤ 1048576) (ha : a.length ≤ 1048576) (hb : b.length ≤ 1048576) : (aftR n l nh lh nk lk a b lz).length ≤ 1048576 := aftR_len n nh nk l lh lk a b lz ha
end Go.Proofs.Ytikclhackjjhfaa.M

/- Numbers of shortest ways (pure): a fold over places, told by distances. -/
import Derived.Test.YtemdajfcfmefnaaBtQ
namespace Go.Proofs.Ytemdajfcfmefnaa.M
open Go.RowKit Abs
set_option linter.unusedSimpArgs false
set_option linter.unusedVariables false
set_option maxRecDepth 100000
set_option maxHeartbeats 4000000
def hitC (M : Int) (D : List Int) (u : Int) (C : List Int) (b : Int) : List Int := if gi D u < gi D b then setI C b (min (gi C b + gi C u) M) else C
def proc (M : Int) (R : List (List Int)) (D : List Int) (C : List Int) (u : Int) : List Int := (getR .int R u).foldl (hitC M D u) C
theorem hitC_len {M : Int} {D C : List Int} {u b : Int} : (hitC M D u C b).length = C.length := by
  unfold hitC
  split
  · exact setI_len ..
  · rfl
theorem fold_hit {M : Int} {D : List Int} {u : Int} : ∀ {r : List Int} {C : List Int}, r.Nodup → (∀ b ∈ r, 0 ≤ b ∧ b < (C.length : Int)) →
    (r.foldl (hitC M D u) C).length = C.length ∧ ∀ v : Int, 0 ≤ v → gi (r.foldl (hitC M D u) C) v = if v ∈ r ∧ gi D u < gi D v then min (gi C v + gi C u) M else gi C v
  | [], C, _, _ => ⟨rfl, fun v _ => by simp⟩
  | b :: r, C, hn, hr => by
    obtain ⟨hb, hn⟩ := List.nodup_cons.1 hn
    obtain ⟨b0, b1⟩ := hr b (by simp)
    obtain ⟨i1, i2⟩ := fold_hit (M := M) (D := D) (u := u) (r := r) (C := hitC M D u C b) hn fun x hx => by rw [hitC_len]; exact hr x (by simp [hx])
    rw [List.foldl_cons]
    refine ⟨i1.trans hitC_len, fun v v0 => ?_⟩
    have key : ∀ x : Int, 0 ≤ x → gi (hitC M D u C b) x = if x = b ∧ gi D u < gi D b then min (gi C b + gi C u) M else gi C x := fun x x0 => by
      unfold hitC
      by_cases c : gi D u < gi D b
      · rw [if_pos c, gi_set]
        by_cases e : x = b
        · rw [if_pos (by omega), if_pos ⟨e, c⟩]
        · rw [if_neg (by omega), if_neg (fun h => e h.1)]
      · rw [if_neg c, if_neg (fun h => c h.2)]
    have ku : gi (hitC M D u C b) u = gi C u := by
      unfold hitC
      split
      · rename_i c
        rw [gi_set]
        split
        · rename_i e
          have : gi D b = gi D u := by unfold gi; rw [e.1]
          omega
        · rfl
      · rfl
    have kv := key v v0
    rw [i2 v v0, ku]
    by_cases e : v = b
    · subst e
      rw [if_neg (fun h => hb h.1), kv]
      by_cases c : gi D u < gi D v
      · rw [if_pos ⟨rfl, c⟩, if_pos ⟨by simp, c⟩]
      · rw [if_neg (fun h => c h.2), if_neg (fun h => c h.2)]
    · rw [if_neg (fun h => e h.1)] at kv
      rw [kv]
      by_cases c : v ∈ r ∧ gi D u < gi D v
      · rw [if_pos c, if_pos ⟨by simp [c.1], c.2⟩]
      · rw [if_neg c, if_neg fun h => c ⟨(List.mem_cons.1 h.1).resolve_left e, h.2⟩]
def places (n : Nat) : List Int := (List.range n).map Int.ofNat
theorem places_mem {n : Nat} {v : Int} : v ∈ places n ↔ 0 ≤ v ∧ v < n := by
  unfold places
  rw [List.mem_map]
  constructor
  · rintro ⟨a, ha, rfl⟩
    have := List.mem_range.1 ha
    simp only [Int.ofNat_eq_natCast]
    omega
  · rintro ⟨a, b⟩
    exact ⟨v.toNat, List.mem_range.2 (by omega), by simp only [Int.ofNat_eq_natCast]; omega⟩
theorem places_nd (n : Nat) : (places n).Nodup := by
  unfold places List.Nodup
  rw [List.pairwise_map]
  exact List.Pairwise.imp (fun h e => h (Int.ofNat.inj e)) (List.nodup_range (n := n))
def preds (R : List (List Int)) (D : List Int) (P : List Int) (v d : Int) : List Int := P.filter fun u => decide (gi D u = d) && decide (v ∈ getR .int R u)
def cl (M : Int) (R : List (List Int)) (D : List Int) (i : Int) : Nat → Int → Int
  | 0, v => if v = i then 1 else 0
  | d + 1, v => min M ((preds R D (places R.length) v d).map (cl M R D i d)).sum
theorem cl_nn {M : Int} (hM : 0 ≤ M) {R : List (List Int)} {D : List Int} {i : Int} : ∀ {d : Nat} {v : Int}, 0 ≤ cl M R D i d v
  | 0, v => by unfold cl; split <;> omega
  | d + 1, v => by
    unfold cl
    have : ∀ l : List Int, 0 ≤ (l.map (cl M R D i d)).sum := fun l => by
      induction l with
      | nil => simp
      | cons a l ih => rw [List.map_cons, List.sum_cons]; have := cl_nn hM (R := R) (D := D) (i := i) (d := d) (v := a); omega
    have := this (preds R D (places R.length) v d)
    omega
/-- What the distances D from i in R fulfil. -/
structure Dst (R : List (List Int)) (D : List Int) (i : Int) : Prop where
  i0 : 0 ≤ i ∧ i < R.length
  zero : gi D i = 0 ∧ ∀ v : Int, 0 ≤ v → v < R.length → gi D v = 0 → v = i
  step : ∀ u v : Int, 0 ≤ u → u < R.length → 0 ≤ gi D u → v ∈ getR .int R u → 0 ≤ v ∧ v < R.length ∧ 0 ≤ gi D v ∧ gi D v ≤ gi D u + 1 ∧ gi D u ≤ gi D v + 1
  nd : ∀ u : Int, (getR .int R u).Nodup
/-- A list of places in an order in which they may be taken. -/
structure Ord (R : List (List Int)) (D : List Int) (P : List Int) : Prop where
  nd : P.Nodup
  mem : ∀ u ∈ P, 0 ≤ u ∧ u < R.length ∧ 0 ≤ gi D u
  mono : P.Pairwise fun a b => gi D a ≤ gi D b
  cls : ∀ u ∈ P, ∀ w : Int, 0 ≤ w → w < R.length → 0 ≤ gi D w → gi D w < gi D u → w ∈ P
theorem Ord.init {R : List (List Int)} {D P : List Int} {u : Int} (h : Ord R D (P ++ [u])) : Ord R D P ∧ u ∉ P ∧ (0 ≤ u ∧ u < R.length ∧ 0 ≤ gi D u) ∧ ∀ w : Int, 0 ≤ w → w < R.length → 0 ≤ gi D w → gi D w < gi D u → w ∈ P := by
  have hn := List.nodup_append.1 h.nd
  have hm := List.pairwise_append.1 h.mono
  refine ⟨⟨hn.1, fun v hv => h.mem v (by simp [hv]), hm.1, fun v hv w w0 w1 w2 w3 => ?_⟩, fun hu => hn.2.2 u hu u (by simp) rfl, h.mem u (by simp), fun w w0 w1 w2 w3 => ?_⟩
  · rcases List.mem_append.1 (h.cls v (by simp [hv]) w w0 w1 w2 w3) with x | x
    · exact x
    · simp only [List.mem_singleton] at x
      subst x
      have := hm.2.2 v hv w (by simp)
      omega
  · rcases List.mem_append.1 (h.cls u (by simp) w w0 w1 w2 w3) with x | x
    · exact x
    · simp only [List.mem_singleton] at x
      subst x
      omega
theorem preds_perm {R : List (List Int)} {D P : List Int} {v d : Int} (hn : P.Nodup) (hm : ∀ u ∈ P, 0 ≤ u ∧ u < R.length) (ha : ∀ w : Int, 0 ≤ w → w < R.length → gi D w = d → w ∈ P) : (preds R D P v d).Perm (preds R D (places R.length) v d) := by
  unfold preds
  rw [List.perm_ext_iff_of_nodup (hn.filter _) ((places_nd _).filter _)]
  intro a
  simp only [List.mem_filter, Bool.and_eq_true, decide_eq_true_eq, places_mem]
  constructor
  · rintro ⟨a1, a2, a3⟩; exact ⟨hm a a1, a2, a3⟩
  · rintro ⟨⟨a0, a1⟩, a2, a3⟩; exact ⟨ha a a0 a1 a2, a2, a3⟩
theorem perm_sum {l m : List Int} (h : l.Perm m) : l.sum = m.sum := by
  induction h with
  | nil => rfl
  | cons x _ ih => rw [List.sum_cons, List.sum_cons, ih]
  | swap x y l => simp only [List.sum_cons]; omega
  | trans _ _ a b => exact a.trans b
theorem at_level {M : Int} {R : List (List Int)} {D P : List Int} {i v : Int} (hn : P.Nodup) (hm : ∀ u ∈ P, 0 ≤ u ∧ u < R.length) (hv : 1 ≤ gi D v) (ha : ∀ w : Int, 0 ≤ w → w < R.length → 0 ≤ gi D w → gi D w < gi D v → w ∈ P) :
    min M ((preds R D P v (gi D v - 1)).map fun u => cl M R D i (gi D u).toNat u).sum = cl M R D i (gi D v).toNat v := by
  obtain ⟨d, hd⟩ : ∃ d : Nat, gi D v = d + 1 := ⟨(gi D v - 1).toNat, by omega⟩
  have e1 : (gi D v).toNat = d + 1 := by omega
  have e2 : gi D v - 1 = d := by omega
  rw [e1, e2]
  show _ = min M ((preds R D (places R.length) v d).map (cl M R D i d)).sum
  congr 1
  have hp := preds_perm (R := R) (D := D) (v := v) (d := (d : Int)) hn hm fun w w0 w1 w2 => ha w w0 w1 (by omega) (by omega)
  have e3 : ((preds R D P v d).map fun u => cl M R D i (gi D u).toNat u) = (preds R D P v d).map (cl M R D i d) := by
    refine List.map_congr_left fun u hu => ?_
    unfold preds at hu
    have := (List.mem_filter.1 hu).2
    simp only [Bool.and_eq_true, decide_eq_true_eq] at this
    rw [this.1, Int.toNat_natCast]
  rw [e3]
  exact perm_sum (hp.map _)
def cstart (n : Nat) (i : Int) : List Int := setI (List.replicate n 0) i 1
theorem count_fold {M : Int} (hM : 1 ≤ M) {R : List (List Int)} {D : List Int} {i : Int} (hd : Dst R D i) : ∀ (k : Nat) (P : List Int), P.length = k → Ord R D P →
    (P.foldl (proc M R D) (cstart R.length i)).length = R.length ∧ ∀ v : Int, 0 ≤ v → v < R.length → 0 ≤ gi D v →
      gi (P.foldl (proc M R D) (cstart R.length i)) v = if v = i then 1 else min M ((preds R D P v (gi D v - 1)).map fun u => cl M R D i (gi D u).toNat u).sum := fun k => by
  induction k with
  | zero =>
    intro P hP _
    rw [List.eq_nil_of_length_eq_zero hP]
    refine ⟨by simp [cstart, setI_len], fun v v0 v1 _ => ?_⟩
    show gi (setI (List.replicate R.length 0) i 1) v = _
    have hi := hd.i0
    rw [gi_set]
    by_cases e : v = i
    · rw [if_pos ⟨by omega, by simp; omega⟩, if_pos e]
    · rw [if_neg (by omega), if_neg e]
      have : gi (List.replicate R.length 0) v = 0 := by
        unfold gi
        rw [List.getD_eq_getElem?_getD, List.getElem?_replicate]
        split <;> rfl
      rw [this]
      simp [preds]
      omega
  | succ k ih =>
    intro P hP ho
    obtain ⟨P', u, rfl⟩ : ∃ P' u, P = P' ++ [u] := by
      have hne : P ≠ [] := fun e => by rw [e] at hP; simp at hP
      exact ⟨P.dropLast, P.getLast hne, (List.dropLast_concat_getLast hne).symm⟩
    obtain ⟨o1, o2, ⟨u0, u1, u2⟩, o3⟩ := ho.init
    obtain ⟨i1, i2⟩ := ih P' (by simp at hP; omega) o1
    rw [List.foldl_append]
    show (proc M R D (P'.foldl (proc M R D) (cstart R.length i)) u).length = _ ∧ ∀ v : Int, 0 ≤ v → v < R.length → 0 ≤ gi D v → gi (proc M R D (P'.foldl (proc M R D) (cstart R.length i)) u) v = _
    generalize hC : P'.foldl (proc M R D) (cstart R.length i) = C at i1 i2 ⊢
    have hf := fold_hit (M := M) (D := D) (u := u) (r := getR .int R u) (C := C) (hd.nd u) fun b hb => by
      have := hd.step u b u0 u1 u2 hb
      rw [i1]; exact ⟨this.1, this.2.1⟩
    refine ⟨hf.1.trans i1, fun v v0 v1 v2 => ?_⟩
    have hcu : gi C u = cl M R D i (gi D u).toNat u := by
      rw [i2 u u0 u1 u2]
      by_cases e : u = i
      · subst e
        rw [if_pos rfl, hd.zero.1]
        simp [cl]
      · rw [if_neg e]
        have : gi D u ≠ 0 := fun h => e (hd.zero.2 u u0 u1 h)
        exact at_level o1.nd (fun w hw => ⟨(o1.mem w hw).1, (o1.mem w hw).2.1⟩) (by omega) o3
    unfold proc
    rw [hf.2 v v0, hcu, i2 v v0 v1 v2]
    by_cases e : v = i
    · rw [if_pos e]
      have : gi D v = 0 := by rw [e]; exact hd.zero.1
      rw [if_neg (by omega), if_pos e]
    · rw [if_neg e, if_neg e]
      unfold preds
      rw [List.filter_append, List.map_append, List.sum_append]
      by_cases c : v ∈ getR .int R u ∧ gi D u < gi D v
      · have hs := hd.step u v u0 u1 u2 c.1
        rw [if_pos c, List.filter_cons_of_pos (by simp only [Bool.and_eq_true, decide_eq_true_eq]; exact ⟨by omega, c.1⟩)]
        have := cl_nn (M := M) (by omega) (R := R) (D := D) (i := i) (d := (gi D u).toNat) (v := u)
        simp only [List.filter_nil, List.map_cons, List.map_nil, List.sum_cons, List.sum_nil]
        omega
      · rw [if_neg c, List.filter_cons_of_neg (by simp only [Bool.and_eq_true, decide_eq_true_eq]; exact fun h => c ⟨h.2, by omega⟩)]
        simp
/-- What is counted for a place j, in whatever such order that has all places that are nearer. -/
theorem count_at {M : Int} (hM : 1 ≤ M) {R : List (List Int)} {D P : List Int} {i j : Int} (hd : Dst R D i) (ho : Ord R D P) (j0 : 0 ≤ j) (j1 : j < R.length) (j2 : 0 ≤ gi D j) (ha : ∀ w : Int, 0 ≤ w → w < R.length → 0 ≤ gi D w → gi D w < gi D j → w ∈ P) :
    gi (P.foldl (proc M R D) (cstart R.length i)) j = if j = i then 1 else cl M R D i (gi D j).toNat j := by
  rw [(count_fold hM hd P.length P rfl ho).2 j j0 j1 j2]
  by_cases e : j = i
  · rw [if_pos e, if_pos e]
  · rw [if_neg e, if_neg e]
    have : gi D j ≠ 0 := fun h => e (hd.zero.2 j j0 j1 h)
    exact at_level ho.nd (fun w hw => ⟨(ho.mem w hw).1, (ho.mem w hw).2.1⟩) (by omega) ha
end Go.Proofs.Ytemdajfcfmefnaa.M

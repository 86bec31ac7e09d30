/- The parts of a Space (pure). -/
import Derived.Test.YtemdajfcfmefnaaBtQ
import Derived.Test.YtemdajfcfmefnaaPfQ
namespace Go.Proofs.Ytemdajfcfmefnaa.M
open Go.RowKit Abs
set_option linter.unusedSimpArgs false
set_option linter.unusedVariables false
set_option maxRecDepth 100000
set_option maxHeartbeats 4000000
def fnd (D : List Int) (k : Int) : Bool := decide (0 ≤ gi D k)
def partL (L : List (List Int)) (l : List (Int × Int)) (i : Int) : List Int := pref (fnd (distR L l i)) L.length
abbrev PS := List (List Int) × List Bool
def pstep (L : List (List Int)) (l : List (Int × Int)) (S : PS) (i : Int) : PS := if gb S.2 i = true then S else (S.1 ++ [partL L l i], markP (fnd (distR L l i)) S.2)
def partsTo (L : List (List Int)) (l : List (Int × Int)) (k : Nat) : PS := ((List.range k).map Int.ofNat).foldl (pstep L l) ([], List.replicate L.length false)
def partsR (L : List (List Int)) (l : List (Int × Int)) : List (List Int) := (partsTo L l L.length).1
theorem range_next {k : Int} (h0 : 0 ≤ k) : (List.range (k + 1).toNat).map Int.ofNat = (List.range k.toNat).map Int.ofNat ++ [k] := by
  have e : (k + 1).toNat = k.toNat + 1 := by omega
  have e2 : Int.ofNat k.toNat = k := by simp; omega
  rw [e, List.range_succ, List.map_append, List.map_cons, List.map_nil, e2]
theorem partsTo_next {L : List (List Int)} {l : List (Int × Int)} {k : Int} (h0 : 0 ≤ k) : partsTo L l (k + 1).toNat = pstep L l (partsTo L l k.toNat) k := by
  unfold partsTo
  rw [range_next h0, List.foldl_append]
  rfl
theorem partsTo_zero (L : List (List Int)) (l : List (Int × Int)) : (partsTo L l (Int.toNat 0)).1 = [] ∧ (partsTo L l (Int.toNat 0)).2 = List.replicate L.length false := by
  rw [show Int.toNat 0 = 0 from rfl]
  simp [partsTo]
theorem partL_ok {L : List (List Int)} {l : List (Int × Int)} {i : Int} (hp : pairsOk l L.length = true) (h0 : 0 ≤ i) (h1 : i < L.length) : partL L l i ≠ [] ∧ ((partL L l i).length : Int) ≤ L.length ∧ ∀ v ∈ partL L l i, 0 ≤ v ∧ v < L.length := by
  refine ⟨fun e => ?_, ?_, fun v hv => ?_⟩
  · have : i ∈ partL L l i := pref_mem.2 ⟨h0, h1, by simp [fnd, (dist_zero hp h0 h1).1]⟩
    rw [e] at this
    simp at this
  · have := pref_len (p := fnd (distR L l i)) (k := (L.length : Int)) (by omega)
    rwa [Int.toNat_natCast] at this
  · have := pref_mem.1 hv
    exact ⟨this.1, this.2.1⟩
structure PartsOk (L : List (List Int)) (S : PS) (k : Int) : Prop where
  len : S.2.length = L.length
  cnt : (S.1.length : Int) ≤ k
  row : ∀ p ∈ S.1, p ≠ [] ∧ (p.length : Int) ≤ L.length ∧ ∀ v ∈ p, 0 ≤ v ∧ v < L.length
theorem partsTo_ok {L : List (List Int)} {l : List (Int × Int)} (hp : pairsOk l L.length = true) : ∀ k : Nat, k ≤ L.length → PartsOk L (partsTo L l k) k
  | 0, _ => ⟨by simp [partsTo], by simp [partsTo], fun p h => by simp [partsTo] at h⟩
  | k + 1, hk => by
    have ih := partsTo_ok hp k (by omega)
    have := partsTo_next (L := L) (l := l) (k := (k : Int)) (by omega)
    rw [show ((k : Int) + 1).toNat = k + 1 by omega, Int.toNat_natCast] at this
    rw [this]
    have c := ih.cnt
    unfold pstep
    split
    · exact ⟨ih.len, by omega, ih.row⟩
    · refine ⟨by rw [markP_len]; exact ih.len, by simp only [List.length_append, List.length_cons, List.length_nil]; omega, fun p h => ?_⟩
      rcases List.mem_append.1 h with h | h
      · exact ih.row p h
      · rw [List.mem_singleton] at h
        subst h
        exact partL_ok hp (by omega) (by omega)
theorem parts_ok {L : List (List Int)} {l : List (Int × Int)} (hp : pairsOk l L.length = true) : ((partsR L l).length : Int) ≤ L.length ∧ ∀ p ∈ partsR L l, p ≠ [] ∧ (p.length : Int) ≤ L.length ∧ ∀ v ∈ p, 0 ≤ v ∧ v < L.length := by
  have h := partsTo_ok hp L.length (Nat.le_refl _)
  exact ⟨h.cnt, h.row⟩
theorem queue_mem {L : List (List Int)} {l : List (Int × Int)} {i : Int} (hp : pairsOk l L.length = true) (h0 : 0 ≤ i) (h1 : i < L.length) (v : Int) : v ∈ queR L l i ↔ 0 ≤ v ∧ v < L.length ∧ fnd (distR L l i) v = true := by
  obtain ⟨n1, n2, n3⟩ := near_ok hp
  have c := search_core (q := fun _ => true) h0 (by omega) n2
  have o := search_inv (q := fun _ => true) h0 (by omega) n2
  unfold fnd
  rw [decide_eq_true_eq]
  constructor
  · intro hv
    have := o.mem v hv
    exact ⟨this.1, by omega, this.2.2⟩
  · rintro ⟨a, b, d⟩
    exact c.all v a (by omega) d
theorem queue_nd {L : List (List Int)} {l : List (Int × Int)} {i : Int} (hp : pairsOk l L.length = true) (h0 : 0 ≤ i) (h1 : i < L.length) : (queR L l i).Nodup ∧ (queR L l i).length ≤ L.length := by
  obtain ⟨n1, n2, n3⟩ := near_ok hp
  have c := search_core (q := fun _ => true) h0 (by omega) n2
  have o := search_inv (q := fun _ => true) h0 (by omega) n2
  refine ⟨c.nd, ?_⟩
  have := o.cnt
  unfold queR
  omega
/-- The queue in order is the part. -/
theorem queue_sorted {L : List (List Int)} {l : List (Int × Int)} {i : Int} {s : List Int} (hp : pairsOk l L.length = true) (h0 : 0 ≤ i) (h1 : i < L.length) (hs : s.Pairwise (· ≤ ·)) (hm : s.Perm (queR L l i)) : s = partL L l i := by
  refine asc_eq ?_ (pref_asc _ _) fun x => ?_
  · have hn := (hm.nodup_iff).2 (queue_nd hp h0 h1).1
    have := hs.and hn
    exact this.imp fun h => by omega
  · rw [hm.mem_iff, queue_mem hp h0 h1]
    unfold partL
    rw [pref_mem]
def putAll (f : Int → Int) (p : List Int) (o : List Int) : List Int := p.foldl (fun o v => setI o v (f v)) o
theorem putAll_len {f : Int → Int} : ∀ {p o : List Int}, (putAll f p o).length = o.length
  | [], o => rfl
  | v :: p, o => by
    have := putAll_len (f := f) (p := p) (o := setI o v (f v))
    rw [setI_len] at this
    exact this
theorem putAll_next {f : Int → Int} {p o : List Int} {k : Int} (h0 : 0 ≤ k) (h1 : k < (p.length : Int)) : putAll f (p.take (k + 1).toNat) o = setI (putAll f (p.take k.toNat) o) (gi p k) (f (gi p k)) := by
  unfold putAll
  rw [take_gi h0 h1, List.foldl_append]; rfl
def putTo (F : Int → Int → Int) (P : List (List Int)) (o : List Int) (k : Nat) : List Int := ((List.range k).map Int.ofNat).foldl (fun o i => putAll (F i) (getR .int P i) o) o
theorem putTo_next {F : Int → Int → Int} {P : List (List Int)} {o : List Int} {k : Int} (h0 : 0 ≤ k) : putTo F P o (k + 1).toNat = putAll (F k) (getR .int P k) (putTo F P o k.toNat) := by
  unfold putTo
  rw [range_next h0, List.foldl_append]
  rfl
theorem putTo_len {F : Int → Int → Int} {P : List (List Int)} {o : List Int} : ∀ k : Nat, (putTo F P o k).length = o.length
  | 0 => rfl
  | k + 1 => by
    have := putTo_next (F := F) (P := P) (o := o) (k := (k : Int)) (by omega)
    rw [show ((k : Int) + 1).toNat = k + 1 by omega, Int.toNat_natCast] at this
    rw [this, putAll_len, putTo_len k]
def labelsR (L : List (List Int)) (l : List (Int × Int)) : List Int := putTo (fun i _ => i) (partsR L l) (List.replicate L.length 0) (partsR L l).length
def parR (L : List (List Int)) (l : List (Int × Int)) : List Int := putTo (fun i v => (gi (distR L l (gi (getR .int (partsR L l) i) 0)) v).tmod 2) (partsR L l) (List.replicate L.length 0) (partsR L l).length
end Go.Proofs.Ytemdajfcfmefnaa.M

/- The places by their distances, ascending (pure). -/
import Derived.Test.YtemdajfcfmefnaaCnQ
import Derived.Test.YtemdajfcfmefnaaPfQ
namespace Go.Proofs.Ytemdajfcfmefnaa.M
open Go.RowKit Abs
set_option linter.unusedSimpArgs false
set_option linter.unusedVariables false
set_option maxRecDepth 100000
set_option maxHeartbeats 4000000
def layer (D : List Int) (n : Nat) (d : Int) : List Int := pref (fun a => decide (gi D a = d)) n
def lay (D : List Int) (n : Nat) (k : Nat) : List Int := ((List.range k).map Int.ofNat).flatMap (layer D n)
theorem lay_next {D : List Int} {n : Nat} (k : Nat) : lay D n (k + 1) = lay D n k ++ layer D n k := by
  unfold lay
  rw [List.range_succ, List.map_append, List.flatMap_append]
  simp
theorem layer_mem {D : List Int} {n : Nat} {d u : Int} : u ∈ layer D n d ↔ 0 ≤ u ∧ u < n ∧ gi D u = d := by
  unfold layer
  rw [pref_mem, decide_eq_true_eq]
theorem lay_mem {D : List Int} {n : Nat} : ∀ {k : Nat} {u : Int}, u ∈ lay D n k ↔ (0 ≤ u ∧ u < n) ∧ 0 ≤ gi D u ∧ gi D u < k
  | 0, u => by constructor
               · intro h; simp [lay] at h
               · rintro ⟨_, a, b⟩; omega
  | k + 1, u => by
    rw [lay_next, List.mem_append, lay_mem, layer_mem]
    constructor
    · rintro (⟨a, b, c⟩ | ⟨a, b, c⟩)
      · exact ⟨a, b, by omega⟩
      · exact ⟨⟨a, b⟩, by omega, by omega⟩
    · rintro ⟨a, b, c⟩
      by_cases e : gi D u = k
      · exact .inr ⟨a.1, a.2, e⟩
      · exact .inl ⟨a, b, by omega⟩
theorem lay_ord {D : List Int} {R : List (List Int)} : ∀ k : Nat, (lay D R.length k).Nodup ∧ (lay D R.length k).Pairwise fun a b => gi D a ≤ gi D b
  | 0 => by simp [lay]
  | k + 1 => by
    obtain ⟨h1, h2⟩ := lay_ord (D := D) (R := R) k
    rw [lay_next]
    refine ⟨List.nodup_append.2 ⟨h1, ?_, fun a ha b hb e => ?_⟩, List.pairwise_append.2 ⟨h2, ?_, fun a ha b hb => ?_⟩⟩
    · exact (pref_asc _ _).imp fun h => Int.ne_of_lt h
    · have := (lay_mem.1 ha).2
      have := (layer_mem.1 hb).2.2
      subst e
      omega
    · refine List.Pairwise.imp_of_mem (R := fun _ _ => True) (fun ha hb _ => ?_) ?_
      · rw [(layer_mem.1 ha).2.2, (layer_mem.1 hb).2.2]; exact Int.le_refl _
      · exact List.pairwise_of_forall fun _ _ => trivial
    · have := (lay_mem.1 ha).2
      have := (layer_mem.1 hb).2.2
      omega
theorem lay_Ord {D : List Int} {R : List (List Int)} (k : Nat) : Ord R D (lay D R.length k) := by
  obtain ⟨h1, h2⟩ := lay_ord (D := D) (R := R) k
  refine ⟨h1, fun u hu => ?_, h2, fun u hu w w0 w1 w2 h => ?_⟩
  · have := lay_mem.1 hu
    exact ⟨this.1.1, this.1.2, this.2.1⟩
  · have := (lay_mem.1 hu).2
    exact lay_mem.2 ⟨⟨w0, w1⟩, w2, by omega⟩
/-- What is counted by layers. -/
def cntL (L : List (List Int)) (l : List (Int × Int)) (i : Int) (k : Nat) : List Int := (lay (distR L l i) L.length k).foldl (proc 1000000 (nearR l L.length) (distR L l i)) (cstart L.length i)
theorem cnt_same {L : List (List Int)} {l : List (Int × Int)} {i j : Int} (hp : pairsOk l L.length = true) (h0 : 0 ≤ i) (h1 : i < L.length) (j0 : 0 ≤ j) (j1 : j < L.length) (hj : 0 ≤ gi (distR L l i) j) : gi (cntL L l i (gi (distR L l i) j).toNat) j = cntQ L l i j := by
  obtain ⟨n1, n2, n3⟩ := near_ok hp
  have hd := dst_space hp h0 h1
  obtain ⟨q1, q2⟩ := ord_queue hp h0 h1
  unfold cntL cntQ
  have e1 := lay_Ord (D := distR L l i) (R := nearR l L.length) (gi (distR L l i) j).toNat
  have a := count_at (M := 1000000) (by omega) hd e1 j0 (by omega) hj fun w w0 w1 w2 h => lay_mem.2 ⟨⟨w0, w1⟩, w2, by omega⟩
  have b := count_at (M := 1000000) (by omega) hd q1 j0 (by omega) hj fun w w0 w1 w2 h => q2 w w0 (by omega) w2
  rw [n1] at a b
  rw [a, b]
/-- One place of a layer. -/
def midC (L : List (List Int)) (l : List (Int × Int)) (i : Int) (d : Int) (C : List Int) (a : Nat) : List Int := (pref (fun x => decide (gi (distR L l i) x = d)) a).foldl (proc 1000000 (nearR l L.length) (distR L l i)) C
theorem mid_next {L : List (List Int)} {l : List (Int × Int)} {i d a : Int} {C : List Int} (h0 : 0 ≤ a) : (gi (distR L l i) a = d → midC L l i d C (a + 1).toNat = proc 1000000 (nearR l L.length) (distR L l i) (midC L l i d C a.toNat) a) ∧ (¬ gi (distR L l i) a = d → midC L l i d C (a + 1).toNat = midC L l i d C a.toNat) := by
  unfold midC
  rw [pref_next h0, List.foldl_append]
  refine ⟨fun h => ?_, fun h => ?_⟩
  · rw [if_pos (by simpa using h)]; rfl
  · rw [if_neg (by simpa using h)]; rfl
theorem cntL_next {L : List (List Int)} {l : List (Int × Int)} {i k : Int} (h0 : 0 ≤ k) : cntL L l i (k + 1).toNat = midC L l i k (cntL L l i k.toNat) L.length := by
  unfold cntL midC
  rw [show (k + 1).toNat = k.toNat + 1 by omega, lay_next, List.foldl_append, Int.toNat_of_nonneg h0]
  rfl
theorem mid_ok {L : List (List Int)} {l : List (Int × Int)} {i d : Int} {C : List Int} (a : Nat) (h : okC 1000000 L.length C) : okC 1000000 L.length (midC L l i d C a) := okC_proc (by omega) h
theorem cntL_ok {L : List (List Int)} {l : List (Int × Int)} {i : Int} (k : Nat) : okC 1000000 L.length (cntL L l i k) := okC_proc (by omega) (okC_start (by omega) _ _)
end Go.Proofs.Ytemdajfcfmefnaa.M

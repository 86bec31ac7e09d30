/- slices.Sort of a row of numbers of the call's own. -/
import Derived.Test.YtemdajfcfmefnaaRpQ
namespace Go.Proofs.Ytemdajfcfmefnaa.M
open Go.RowKit Abs
set_option linter.unusedSimpArgs false
set_option linter.unusedVariables false
set_option maxRecDepth 100000
set_option maxHeartbeats 4000000
def srt (l : List Int) : List Int := l.mergeSort fun x y => decide (x ≤ y)
theorem srt_len (l : List Int) : (srt l).length = l.length := List.length_mergeSort l
theorem srt_perm (l : List Int) : (srt l).Perm l := List.mergeSort_perm l _
theorem srt_asc (l : List Int) : (srt l).Pairwise (· ≤ ·) := by
  have := List.pairwise_mergeSort (le := fun x y : Int => decide (x ≤ y)) (fun a b c h1 h2 => by simp only [decide_eq_true_eq] at h1 h2 ⊢; omega) (fun a b => by simp only [Bool.or_eq_true, decide_eq_true_eq]; omega) l
  exact this.imp fun h => by simpa using h
theorem put_take {n : Nat} {d : List Int} {cur : Array Value} (hd : d.length = n) (hn : n ≤ cur.size) : (Go.Sort.putCells (Value.int .i64) 0 d.toArray cur).toList.take n = d.map (Value.int .i64) := by
  refine List.ext_getElem? fun i => ?_
  rw [List.getElem?_take, List.getElem?_map]
  by_cases h : i < n
  · rw [if_pos h, Array.getElem?_toList]
    unfold Go.Sort.putCells
    rw [Array.getElem?_mapIdx, Array.getElem?_eq_getElem (by omega)]
    simp only [Option.map_some]
    rw [if_pos ⟨Nat.zero_le _, by simp [hd]; exact h⟩, List.getElem?_eq_getElem (by omega)]
    simp only [Nat.sub_zero, Option.map_some]
    rw [getElem!_pos _ _ (by simpa [hd] using h)]
    simp
  · rw [if_neg h, List.getElem?_eq_none (by omega)]; rfl
theorem row_ints {ok : Nat → Prop} {w : World} {l : List Int} {xs : List Value} (h : RepL ok w .int l xs) (j : Nat) (hj : j < l.length) : xs[j]? = some (.int .i64 l[j]) := by
  have h7 := h.2 j l[j] (List.getElem?_eq_getElem hj)
  unfold Rep at h7
  have : ((xs.drop (j * Ty.int.n)).take Ty.int.n)[0]? = some (.int .i64 l[j]) := by rw [h7]; rfl
  rw [List.getElem?_take, List.getElem?_drop] at this
  simpa [Ty.n] using this
theorem ints_rep {ok : Nat → Prop} {w : World} (l : List Int) : RepL ok w .int l (l.map (Value.int .i64)) := by
  refine ⟨by simp [Ty.n], fun i y hy => ?_⟩
  unfold Rep
  have e : ((l.map (Value.int .i64)).drop (i * Ty.int.n)).take Ty.int.n = [.int .i64 y] := by
    simp only [Ty.n, Nat.mul_one]
    obtain ⟨h1, h2⟩ := List.getElem?_eq_some_iff.1 hy
    rw [List.drop_eq_getElem_cons (by simpa using h1), List.getElem_map, h2]
    rfl
  rw [e]
theorem go_sort (l : List Int) (hl : l.length ≤ 1048576) : Spec2 Try.prog 91 [.ref 0] [some (.row 3 .int fun _ => l)] [] [some (.row 3 .int fun _ => srt l)] := by
  refine ⟨by kernel_rfl, Nat.le_refl _, fun w val vs hH hv => ?_⟩
  match vs, hv with
  | [v], hv =>
  simp only [VRelL, VRel, and_true] at hv
  obtain ⟨_, hv0⟩ := hv
  subst hv0
  obtain ⟨xs, k1, k2, k3⟩ := hH.blk 0 _ rfl
  replace k1 : w.ownsRow 0 3 1 (val 0).v l.length xs := k1
  replace k2 : RepL (okF [some (Blk.row 3 Ty.int fun x => l)] val) w .int l xs := k2
  have hlt0 := hH.lt 0 _ rfl
  have hx := row_ints k2
  have k1l := k1.1
  rcases k1.2 with ⟨hz, hn⟩ | ⟨g, cap, cur, hz, _, hc, hcap, hmax, hsz, htk⟩
  · have e : l = [] := List.length_eq_zero_iff.1 hn
    subst e
    rw [hz]
    refine (Try.slices_Sort_int_none none 0 w).mono ?_
    rintro e w' ⟨rfl, rfl⟩
    have es : srt [] = [] := by simp [srt]
    refine ⟨_, val, rfl, ⟨⟨rfl, rfl, rfl, Nat.le_refl _, fun _ _ _ => rfl⟩, ⟨fun n B h => ?_, fun n B h g hg => ?_, fun n m B C hne h h' => ?_⟩, fun n B h g hg => ?_, fun n _ => rfl, ⟨[], rfl, by simp [VRelL]⟩⟩⟩
    · match n, h with
      | 0, h =>
        cases h
        exact ⟨[], by rw [es, hz]; exact World.ownsRow_nil _ _ _ _, by rw [es]; exact ints_rep [], k3⟩
    · match n, h with
      | 0, h => exact hlt0 g hg
    · match n, m, h, h' with
      | 0, 0, _, _ => exact (hne rfl).elim
    · match n, h with
      | 0, h => exact .inr ⟨0, _, rfl, hg⟩
  · have hF : ∀ b, b ∈ (val 0).F ↔ b = g := fun b => by rw [k3, hz]; simp [ownB]
    have hgl : g < w.heap.size := hlt0 g ((hF g).2 rfl)
    have hcl : l.length ≤ cur.size := by omega
    have hH2 : Go.Sort.Holds (Value.int .i64) w g 0 l.toArray := fun j hj => by
      have hj' : j < l.length := by simpa using hj
      have e1 : cur[j]? = some (.int .i64 l[j]) := by
        have := hx j hj'
        rw [← htk, List.getElem?_take, if_pos (by omega), Array.getElem?_toList] at this
        exact this
      refine ⟨?_, ?_⟩
      · simp only [World.cell?, hc, Nat.zero_add]
        rw [e1, getElem!_pos l.toArray j hj]
        simp
      · simp [World.frozen?, hc]
    rw [hz]
    refine (Try.slices_Sort_int g 0 cap l w hH2 hgl (by omega)).mono ?_
    rintro e w' ⟨rfl, n, os, hw'⟩
    replace hw' : w' = Go.Sort.grow (Go.Sort.putRow (Value.int .i64) (Go.Sort.ahead w n) g 0 (srt l).toArray) os := hw'
    subst hw'
    have hw : ∀ k, k < w.heap.size → (Go.Sort.grow (Go.Sort.putRow (Value.int .i64) (Go.Sort.ahead w n) g 0 (srt l).toArray) os).heap[k]? = if k = g then some (.cells (Go.Sort.putCells (Value.int .i64) 0 (srt l).toArray cur) 3 (0, 0)) else w.heap[k]? := fun k hk => by
      rw [Go.Sort.heap_grow_old _ _ (by simpa [Go.Sort.putRow, Go.Sort.mapBlock] using hk)]
      simp only [Go.Sort.putRow, Go.Sort.mapBlock, Go.Sort.heap_ahead, Array.getElem?_modify]
      by_cases e : g = k
      · rw [if_pos e, if_pos e.symm, ← e, hc]; rfl
      · rw [if_neg e, if_neg (Ne.symm e)]
    refine ⟨_, val, rfl, ⟨⟨rfl, rfl, rfl, ?_, fun b hb hB => ?_⟩, ⟨fun n B h => ?_, fun n B h g' hg => ?_, fun n m B C hne h h' => ?_⟩, fun n B h g hg => ?_, fun n _ => rfl, ⟨[], rfl, by simp [VRelL]⟩⟩⟩
    · simp [Go.Sort.putRow, Go.Sort.mapBlock]
    · rw [hw b hb, if_neg fun e => hB ⟨0, _, rfl, (hF b).2 e⟩]
    · match n, h with
      | 0, h =>
        cases h
        refine ⟨(srt l).map (Value.int .i64), ⟨by simp [Ty.n], .inr ⟨g, cap, _, by rw [hz, srt_len], Nat.zero_le _, by rw [hw g hgl, if_pos rfl], by rw [srt_len]; exact hcap, hmax, by simpa [Go.Sort.putCells, Ty.n] using hsz, ?_⟩⟩, ints_rep _, k3⟩
        simp only [Ty.n, Nat.mul_one]
        exact put_take rfl (by rw [srt_len]; exact hcl)
    · match n, h with
      | 0, h =>
        rw [(hF g').1 hg]
        simp [Go.Sort.putRow, Go.Sort.mapBlock]
        omega
    · match n, m, h, h' with
      | 0, 0, _, _ => exact (hne rfl).elim
    · match n, h with
      | 0, h => exact .inr ⟨0, _, rfl, hg⟩
end Go.Proofs.Ytemdajfcfmefnaa.M

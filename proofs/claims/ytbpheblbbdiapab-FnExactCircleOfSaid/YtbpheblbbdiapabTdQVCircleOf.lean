/- A tree without one of its edges: two parts (pure). -/
import Derived.Test.YtbpheblbbdiapabTaQVCircleOf
import Derived.Test.YtbpheblbbdiapabQgVCircleOf
namespace Go.Proofs.Ytbpheblbbdiapab.M
open Go.RowKit Abs
set_option linter.unusedSimpArgs false
set_option linter.unusedVariables false
set_option maxRecDepth 100000
set_option maxHeartbeats 4000000
theorem conn_iff {p : List (Int × Int)} (hp : ∀ e ∈ p, (0 ≤ e.1 ∧ e.1 < 8) ∧ 0 ≤ e.2 ∧ e.2 < 8) {u v : Int} (u0 : 0 ≤ u) (u1 : u < 8) (v0 : 0 ≤ v) (v1 : v < 8) : gi (forF p) u = gi (forF p) v ↔ Conn p u v := by
  have hf := forF_for hp
  constructor
  · intro h
    have hu := hf.con u u0 u1
    have hv := hf.con v v0 v1
    rw [h] at hu
    exact hu.trans hv.symm
  · intro h
    refine h (fun w => gi (forF p) u = gi (forF p) w) (fun a b hn ha => ?_) rfl
    unfold nearB at hn
    rw [List.any_eq_true] at hn
    obtain ⟨e, he, hh⟩ := hn
    have h4 := hf.edge e he
    unfold hit at hh
    simp only [Bool.or_eq_true, Bool.and_eq_true, beq_iff_eq] at hh
    rcases hh with ⟨x, y⟩ | ⟨x, y⟩
    · rw [ha, ← x, ← y]; exact h4
    · rw [ha, ← x, ← y]; exact h4.symm
/-- The edges of a tree but one: each node is connected to one of its ends. -/
theorem two_sides {n : Int} {l : List (Int × Int)} {es : List Int} {d : Int} (n0 : 0 < n) (n8 : n ≤ 8) (hg : graphOk n l = true) (ha : ascB l.length es = true) (hz : allZ (forF (partL l es)) n = true) (hd : d ∈ es) {v : Int} (v0 : 0 ≤ v) (v1 : v < n) :
    Conn (partL l (es.filter fun e => !decide (e = d))) (getI (.pr .int .int) l d).1 v ∨ Conn (partL l (es.filter fun e => !decide (e = d))) (getI (.pr .int .int) l d).2 v := by
  have hP := part_in hg ha
  have hP8 : ∀ e ∈ partL l es, (0 ≤ e.1 ∧ e.1 < 8) ∧ 0 ≤ e.2 ∧ e.2 < 8 := fun e he => by
    have := hP e he
    omega
  have hf := forF_for hP8
  have zero : ∀ w : Int, 0 ≤ w → w < n → gi (forF (partL l es)) w = 0 := fun w w0 w1 => by
    unfold allZ at hz
    rw [List.all_eq_true] at hz
    have h1 : (List.take n.toNat (forF (partL l es)))[w.toNat]? = some (gi (forF (partL l es)) w) := by
      unfold gi
      rw [List.getElem?_take, if_pos (by omega), List.getD_eq_getElem?_getD, List.getElem?_eq_getElem (by rw [hf.len]; omega)]
      rfl
    exact of_decide_eq_true (hz _ (List.mem_of_getElem? h1))
  have hm : getI (.pr .int .int) l d ∈ partL l es := by
    unfold partL
    exact List.mem_map.2 ⟨d, hd, rfl⟩
  have h1 := hP _ hm
  have a0 : 0 ≤ (getI (.pr .int .int) l d).1 := h1.1
  have a1 : (getI (.pr .int .int) l d).1 < n := Int.lt_trans h1.2.1 h1.2.2
  have hc : Conn (partL l es) (getI (.pr .int .int) l d).1 v := (conn_iff hP8 a0 (Int.lt_of_lt_of_le a1 n8) v0 (by omega)).1 (by rw [zero _ a0 a1, zero v v0 v1])
  refine hc (fun w => Conn (partL l (es.filter fun e => !decide (e = d))) (getI (.pr .int .int) l d).1 w ∨ Conn (partL l (es.filter fun e => !decide (e = d))) (getI (.pr .int .int) l d).2 w) (fun x y hn hx => ?_) (.inl (Conn.refl _ _))
  have hn0 := hn
  unfold nearB at hn
  rw [List.any_eq_true] at hn
  obtain ⟨e, he, hh⟩ := hn
  unfold partL at he
  rw [List.mem_map] at he
  obtain ⟨c, hcm, rfl⟩ := he
  by_cases hcd : c = d
  · subst hcd
    unfold hit at hh
    simp only [Bool.or_eq_true, Bool.and_eq_true, beq_iff_eq] at hh
    rcases hh with ⟨_, b⟩ | ⟨b, _⟩
    · right; rw [b]; exact Conn.refl _ _
    · left; rw [b]; exact Conn.refl _ _
  · have hn2 : nearB (partL l (es.filter fun e => !decide (e = d))) x y = true := by
      unfold nearB
      rw [List.any_eq_true]
      refine ⟨getI (.pr .int .int) l c, ?_, hh⟩
      unfold partL
      exact List.mem_map.2 ⟨c, List.mem_filter.2 ⟨hcm, by simpa using hcd⟩, rfl⟩
    exact hx.imp (fun h => h.trans (Conn.edge hn2)) fun h => h.trans (Conn.edge hn2)
/-- Two nodes are connected without the edge if and only if both or none of them is connected to its first end. -/
theorem cut_iff {n : Int} {l : List (Int × Int)} {es : List Int} {d : Int} (n0 : 0 < n) (n8 : n ≤ 8) (hg : graphOk n l = true) (ha : ascB l.length es = true) (hz : allZ (forF (partL l es)) n = true) (hd : d ∈ es) {u v : Int} (u0 : 0 ≤ u) (u1 : u < n) (v0 : 0 ≤ v) (v1 : v < n) :
    gi (forF (partL l (es.filter fun e => !decide (e = d)))) u = gi (forF (partL l (es.filter fun e => !decide (e = d)))) v ↔ (Conn (partL l (es.filter fun e => !decide (e = d))) (getI (.pr .int .int) l d).1 u ↔ Conn (partL l (es.filter fun e => !decide (e = d))) (getI (.pr .int .int) l d).1 v) := by
  have hP := part_in hg ha
  have hp8 : ∀ e ∈ partL l (es.filter fun e => !decide (e = d)), (0 ≤ e.1 ∧ e.1 < 8) ∧ 0 ≤ e.2 ∧ e.2 < 8 := fun e he => by
    unfold partL at he
    rw [List.mem_map] at he
    obtain ⟨c, hc, rfl⟩ := he
    have h1 := hP (getI (.pr .int .int) l c) (by unfold partL; exact List.mem_map.2 ⟨c, (List.mem_filter.1 hc).1, rfl⟩)
    exact ⟨⟨h1.1, Int.lt_trans h1.2.1 (Int.lt_of_lt_of_le h1.2.2 n8)⟩, Int.le_of_lt (Int.lt_of_le_of_lt h1.1 h1.2.1), Int.lt_of_lt_of_le h1.2.2 n8⟩
  rw [conn_iff hp8 u0 (by omega) v0 (by omega)]
  constructor
  · intro h
    exact ⟨fun a => a.trans h, fun a => a.trans h.symm⟩
  · intro h
    rcases two_sides n0 n8 hg ha hz hd u0 u1 with hu | hu
    · exact hu.symm.trans (h.1 hu)
    · rcases two_sides n0 n8 hg ha hz hd v0 v1 with hv | hv
      · exact (h.2 hv).symm.trans hv
      · exact hu.symm.trans hv
end Go.Proofs.Ytbpheblbbdiapab.M

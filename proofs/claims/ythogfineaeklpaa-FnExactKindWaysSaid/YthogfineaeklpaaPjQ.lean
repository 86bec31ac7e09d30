/- IsColouring: both sides say the same. -/
import Derived.Test.YthogfineaeklpaaQg
import Derived.Test.YthogfineaeklpaaPhQ
import Derived.Test.YthogfineaeklpaaPiQ
namespace Go.Proofs.Ythogfineaeklpaa.M
open Go.RowKit Abs
set_option linter.unusedSimpArgs false
set_option linter.unusedVariables false
set_option maxRecDepth 100000
set_option maxHeartbeats 4000000
theorem near_ok {n : Int} {l : List (Int × Int)} (h : graphOk n l = true) (hl : l.length ≤ 1048576) : (nearR l n).length = n.toNat ∧ (nearR l n).length ≤ 8 ∧ ∀ r ∈ nearR l n, r.length ≤ 1048576 ∧ ∀ v ∈ r, 0 ≤ v ∧ v < 8 := by
  obtain ⟨⟨g0, g1⟩, g2, _⟩ := graph_edges h
  have hlen := nearR_len l n
  refine ⟨hlen, by omega, fun r hr => ?_⟩
  obtain ⟨i, hi, rfl⟩ := List.mem_iff_getElem.1 hr
  have e : (nearR l n)[i] = rowV (i : Int) l := by
    have h1 := nearR_row (v := (i : Int)) (by omega) g2
    have h2 := getR_get (t := .int) (l := nearR l n) (i := (i : Int)) (by omega) (by omega)
    rw [h1] at h2
    simp only [Int.toNat_natCast] at h2
    rw [List.getElem?_eq_getElem hi] at h2
    exact Option.some.inj h2
  rw [e]
  refine ⟨Nat.le_trans (rowV_len _ _) hl, fun v hv => ?_⟩
  unfold rowV at hv
  rw [List.mem_filterMap] at hv
  obtain ⟨p, hp, hv⟩ := hv
  have := g2 p hp
  split at hv
  · cases hv; omega
  · split at hv
    · cases hv; omega
    · cases hv
theorem paint_gi {cs : List Int} {v : Int} (h0 : 0 ≤ v) (h1 : v < cs.length) (h2 : v < 8) : gi (paintL cs) v = gi cs v := by
  unfold paintL gi
  rw [List.getD_eq_getElem?_getD, List.getD_eq_getElem?_getD, List.getElem?_append_left (by rw [List.length_take]; omega), List.getElem?_take, if_pos (by omega)]
theorem hold_eq {n k : Int} {l : List (Int × Int)} {cs : List Int} (h : graphOk n l = true) : holdsB (nearR l n) k cs = properB n k l cs := by
  obtain ⟨⟨g0, g1⟩, g2, _⟩ := graph_edges h
  have hlen := nearR_len l n
  unfold holdsB properB
  by_cases hc : (cs.length : Int) = n
  · have e1 : decide (cs.length = (nearR l n).length) = true := by rw [hlen]; simp; omega
    have e2 : decide ((cs.length : Int) = n) = true := by simpa using hc
    rw [e1, e2, Bool.true_and, Bool.true_and]
    have row : ∀ i : Int, 0 ≤ i → getR .int (nearR l n) i = rowV i l := fun i hi => nearR_row hi g2
    rw [Bool.eq_iff_iff, Bool.and_eq_true]
    constructor
    · intro ha
      refine ⟨allI_good fun j j0 j1 => ?_, allI_good fun j j0 j1 => ?_⟩
      · have := allI_get ha j0 j1
        unfold spotB at this
        unfold rangeB
        simp only [Bool.and_eq_true, decide_eq_true_eq] at this ⊢
        omega
      · have he := g2 _ (List.mem_of_getElem? (getI_get (t := (.pr .int .int)) j0 j1))
        have hm := List.mem_of_getElem? (getI_get (t := (.pr .int .int)) j0 j1)
        have := allI_get ha (k := (getI (.pr .int .int) l j).2) (by omega) (by omega)
        unfold spotB at this
        rw [row _ (by omega)] at this
        unfold diffB
        simp only [Bool.and_eq_true, Bool.not_eq_true', decide_eq_false_iff_not] at this ⊢
        intro heq
        have h2 := this.2
        unfold amongB at h2
        rw [List.any_eq_false] at h2
        refine h2 (getI (.pr .int .int) l j).1 ?_ ?_
        · unfold rowV
          rw [List.mem_filterMap]
          exact ⟨_, hm, if_pos rfl⟩
        · rw [paint_gi (by omega) (by omega) (by omega), heq]
          simp
    · intro ⟨ha, hb⟩
      refine allI_good fun j j0 j1 => ?_
      have h1 := allI_get ha j0 j1
      unfold rangeB at h1
      unfold spotB
      rw [row _ j0]
      simp only [Bool.and_eq_true, Bool.not_eq_true', decide_eq_true_eq] at h1 ⊢
      refine ⟨by omega, ?_⟩
      unfold amongB
      rw [List.any_eq_false]
      intro v hv hq
      simp only [decide_eq_true_eq] at hq
      unfold rowV at hv
      rw [List.mem_filterMap] at hv
      obtain ⟨p, hp, hv⟩ := hv
      have hg := g2 p hp
      obtain ⟨m, hm, hpm⟩ := List.mem_iff_getElem.1 hp
      have hd := allI_get hb (k := (m : Int)) (by omega) (by omega)
      have hgi : getI (.pr .int .int) l (m : Int) = p := by
        have := getI_get (t := (.pr .int .int)) (l := l) (i := (m : Int)) (by omega) (by omega)
        simp only [Int.toNat_natCast] at this
        rw [List.getElem?_eq_getElem hm] at this
        rw [← Option.some.inj this, hpm]
      unfold diffB at hd
      rw [hgi] at hd
      simp only [Bool.not_eq_true', decide_eq_false_iff_not] at hd
      split at hv
      · rename_i h2
        cases hv
        rw [paint_gi (by omega) (by omega) (by omega)] at hq
        exact hd (by rw [hq, h2])
      · split at hv
        · rename_i h2
          cases hv
          rw [paint_gi (by omega) (by omega) (by omega)] at hq
          exact hd (by rw [hq, h2])
        · cases hv
  · have e1 : decide (cs.length = (nearR l n).length) = false := by rw [hlen]; simp; omega
    have e2 : decide ((cs.length : Int) = n) = false := by simpa using hc
    rw [e1, e2, Bool.false_and, Bool.false_and]
theorem Spec2.agg {P : Program} {f : FuncId} {t : Ty} {x : Unit → t.den} {r : List AV} {pre : Hp} {res : List AV} {post : Hp} (h : Spec2 P f (.cells (cellsU t x) :: r) pre res post) : Spec2 P f (.agg t x :: r) pre res post := by
  obtain ⟨h1, h2, h3⟩ := h
  refine ⟨h1, h2, fun w val vs hH hv => h3 w val vs hH ?_⟩
  match vs, hv with
  | v :: vs, hv =>
    simp only [VRelL] at hv ⊢
    refine ⟨?_, hv.2⟩
    have hx := hv.1
    simp only [VRel] at hx ⊢
    obtain ⟨cs, e, hr⟩ := hx
    exact ⟨cs, e, rep_cellsU hr, hr.one⟩
theorem im_isCol (n k : Int) (l : List (Int × Int)) (cs : List Int) (hl : l.length ≤ 1048576) (hc : cs.length ≤ 1048576) : Spec2 Try.prog 39 [.agg (.pr .int (.sl (.pr .int .int))) fun _ => (n, l), .int fun _ => k, .sl .int fun _ => cs] [] [.bool fun _ => palB n l k && properB n k l cs, .bool fun _ => palB n l k] [] := by
  cases hb : palB n l k with
  | false =>
    refine fnS [] [6, 7] Try.func39 rfl (by decide) rfl (by decide) (by kernel_rfl) rfl (by simp [Try.ntmps39]) ?_
    cbv
    ((first | refine call_q (im_pal_bad n k l hl hb) (by cbv) ?_ | refine call_pure (im_pal_bad n k l hl hb) (by cbv) ?_); cbv; ((try simp only [IfP_iff, and_true, true_and, decide_eq_true_eq, decide_eq_false_iff_not]); (try simp only [natc, getI_gi, at2_0, at2_1]); (try dsimp only [Ty.den]); (try simp only [natc] at *); (repeat' (first | apply And.intro | intro _))))
    all_goals (try (simp only [IfP_iff, EqU_iff, Obl_iff, and_true, true_and, inI_iff, decide_eq_true_eq, decide_eq_false_iff_not]; (try simp only [natc, getI_gi, at2_0, at2_1]); (try dsimp only [Ty.den]); try simp only [natc] at *))
    · exact absurd (by assumption : false = true) (by decide)
    · rfl
  | true =>
    have hg : graphOk n l = true := by unfold palB at hb; simp only [Bool.and_eq_true] at hb; exact hb.1
    have e1 := hold_eq (k := k) (cs := cs) hg
    obtain ⟨k1, k2, k3⟩ := near_ok hg hl
    refine fnS [] [6, 7] Try.func39 rfl (by decide) rfl (by decide) (by kernel_rfl) rfl (by simp [Try.ntmps39]) ?_
    cbv
    ((first | refine call_q (im_pal_ok n k l hl hb) (by cbv) ?_ | refine call_pure (im_pal_ok n k l hl hb) (by cbv) ?_); cbv; ((try simp only [IfP_iff, and_true, true_and, decide_eq_true_eq, decide_eq_false_iff_not]); (try simp only [natc, getI_gi, at2_0, at2_1]); (try dsimp only [Ty.den]); (try simp only [natc] at *); (repeat' (first | apply And.intro | intro _))))
    ((first | refine call_q (Spec2.agg (t := .pr (.sl (.sl .int)) .int) (x := fun _ => (nearR l n, k)) (im_holds (nearR l n) k cs k2 k3 hc)) (by cbv) ?_ | refine call_pure (Spec2.agg (t := .pr (.sl (.sl .int)) .int) (x := fun _ => (nearR l n, k)) (im_holds (nearR l n) k cs k2 k3 hc)) (by cbv) ?_); cbv; ((try simp only [IfP_iff, and_true, true_and, decide_eq_true_eq, decide_eq_false_iff_not]); (try simp only [natc, getI_gi, at2_0, at2_1]); (try dsimp only [Ty.den]); (try simp only [natc] at *); (repeat' (first | apply And.intro | intro _))))
    all_goals (try (simp only [IfP_iff, EqU_iff, Obl_iff, and_true, true_and, inI_iff, decide_eq_true_eq, decide_eq_false_iff_not]; (try simp only [natc, getI_gi, at2_0, at2_1]); (try dsimp only [Ty.den]); try simp only [natc] at *))
    · rw [e1, Bool.true_and]
    · exact absurd (by assumption : true = false) (by decide)
theorem sp_isCol' (n : Int) (l : List (Int × Int)) (k : Int) (cs : List Int) (hl : l.length ≤ 1048576) (hc : cs.length ≤ 1048576) : Spec2 Try.prog 38 [.agg (.pr .int (.sl (.pr .int .int))) fun _ => (n, l), .int fun _ => k, .sl .int fun _ => cs] [] [.bool fun _ => palB n l k && properB n k l cs, .bool fun _ => palB n l k] [] := sp_isCol n k l cs hl hc
theorem im_isCol' (n : Int) (l : List (Int × Int)) (k : Int) (cs : List Int) (hl : l.length ≤ 1048576) (hc : cs.length ≤ 1048576) : Spec2 Try.prog 39 [.agg (.pr .int (.sl (.pr .int .int))) fun _ => (n, l), .int fun _ => k, .sl .int fun _ => cs] [] [.bool fun _ => palB n l k && properB n k l cs, .bool fun _ => palB n l k] [] := im_isCol n k l cs hl hc
end Go.Proofs.Ythogfineaeklpaa.M

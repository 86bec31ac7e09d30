/- Rows of rows, and Formulas: the helpers of the laws. -/
import Derived.Test.YtcgeedklfejhbaaQe
import Derived.Test.YtcgeedklfejhbaaLvQ
import Derived.Test.YtcgeedklfejhbaaRgQ
namespace Go.Proofs.Ytcgeedklfejhbaa.M
open Go.RowKit Abs
set_option linter.unusedSimpArgs false
set_option linter.unusedVariables false
set_option maxRecDepth 100000
set_option maxHeartbeats 4000000
theorem la_toRows (L : List (List Int)) (hL : L.length ≤ 1048576) (hm : ∀ s ∈ L, s.length ≤ 1048576) :
    Spec2 Try.prog 49 [.sl (.sl .int) fun _ => L] [] [.ref 0] [some (.rows 25 3 .int fun _ => L)] := by
  refine ⟨by kernel_rfl, by simp, fun w val vs hH hv => ?_⟩
  match vs, hv with
  | [v], hv =>
  simp only [VRelL, and_true] at hv
  have ha : Abs.ArgRel w (.sl (.sl .int) L) v := ofA_arg rfl hv
  obtain ⟨a, cap, rfl, h2, h3, h4⟩ := Abs.rep_grid ha
  refine (copyRows w a L cap h2 hL hm).mono ?_
  rintro e w' ⟨v, rfl, ho, hb⟩
  obtain ⟨g, rs, hvv, hg0, hown, hrows⟩ := ho
  have hvb : ownB v = some g := by rw [hvv]; rfl
  obtain ⟨hlen, hr1, hr2⟩ := hrows
  have hob : ∀ (i : Nat) (h : Value), rs[i]? = some h → h.ownBlock = ownB h := fun i h hi => by
    obtain ⟨r, hr⟩ : ∃ r, L[i]? = some r := ⟨_, List.getElem?_eq_getElem (by rw [← hlen]; exact (List.getElem?_eq_some_iff.1 hi).1)⟩
    exact own_as (hr1 i h r hi hr)
  have hbase : ∀ (i : Nat) (h : Value) (b : Nat), rs[i]? = some h → ownB h = some b → g + 1 ≤ b := fun i h b hi hbb => by
    obtain ⟨r, hr⟩ : ∃ r, L[i]? = some r := ⟨_, List.getElem?_eq_getElem (by rw [← hlen]; exact (List.getElem?_eq_some_iff.1 hi).1)⟩
    exact Abs.own_blk (hr1 i h r hi hr) b hbb
  have hMw : g < w'.heap.size := own_size hown g hvb
  have hF : ∀ b, b ∈ (g :: rs.filterMap ownB) ↔ ownB v = some b ∨ ∃ h ∈ rs, ownB h = some b := fun b => by
    rw [hvb]
    simp only [List.mem_cons, List.mem_filterMap, Option.some.injEq]
    constructor
    · rintro (rfl | h)
      · exact .inl rfl
      · exact .inr h
    · rintro (rfl | h)
      · exact .inl rfl
      · exact .inr h
  have hFin : ∀ b, b ∈ (g :: rs.filterMap ownB) → w.heap.size ≤ b ∧ b < w'.heap.size := fun b hbm => by
    rcases (hF b).1 hbm with h | ⟨h, hh, hbb⟩
    · rw [hvb] at h; cases h; exact ⟨hg0, hMw⟩
    · obtain ⟨i, hi⟩ := List.mem_iff_getElem?.1 hh
      have := hbase i h b hi hbb
      obtain ⟨r, hr⟩ : ∃ r, L[i]? = some r := ⟨_, List.getElem?_eq_getElem (by rw [← hlen]; exact (List.getElem?_eq_some_iff.1 hi).1)⟩
      exact ⟨by omega, own_size (hr1 i h r hi hr) b hbb⟩
  refine ⟨_, fun n => ⟨v, rs, g :: rs.filterMap ownB⟩, rfl, ⟨hb.os, hb.tape, hb.output, hb.size, fun b hb' _ => hb.block b hb'⟩, ⟨fun m B hB => ?_, fun m B hB b hbm => ?_, fun m k B C hne hB hC b hbm hbk => ?_⟩, fun m B hB b hbm => ?_, fun m hm => by simp at hm, ?_⟩
  · match m, hB with
    | 0, hB =>
      cases hB
      refine ⟨own_le hown (Nat.zero_le _), fun i y hi => ?_, hF, fun i j h h' b hi hj hb1 hb2 => ?_, fun h hh b hb1 hb2 => ?_⟩
      · obtain ⟨h, hi'⟩ : ∃ h, rs[i]? = some h := ⟨_, List.getElem?_eq_getElem (by rw [hlen]; exact (List.getElem?_eq_some_iff.1 hi).1)⟩
        exact ⟨h, vals y, hi', own_le (hr1 i h y hi' hi) (Nat.zero_le _), repL_ints⟩
      · rcases Nat.lt_trichotomy i j with hij | hij | hij
        · exact (hr2 i j h h' b hi hj hij (by rw [hob i h hi]; exact hb1) (by rw [hob j h' hj]; exact hb2)).elim
        · exact hij
        · exact (hr2 j i h' h b hj hi hij (by rw [hob j h' hj]; exact hb2) (by rw [hob i h hi]; exact hb1)).elim
      · obtain ⟨i, hi⟩ := List.mem_iff_getElem?.1 hh
        have := hbase i h b hi hb1
        have hb3 : ownB v = some b := hb2
        rw [hvb] at hb3
        cases hb3
        omega
    | m + 1, hB => simp at hB
  · match m, hB with
    | 0, hB => exact (hFin b hbm).2
    | m + 1, hB => simp at hB
  · match m, k, hB, hC with
    | 0, 0, _, _ => exact hne rfl
    | m + 1, _, hB, _ => simp at hB
    | 0, k + 1, _, hC => simp at hC
  · match m, hB with
    | 0, hB => exact .inl (hFin b hbm).1
    | m + 1, hB => simp at hB
  · show VRel _ _ _ _ _ _
    simp only [VRel]
    simp
theorem la_szInts (l : List Int) (k : Int) (h0 : 0 ≤ k) (h1 : k ≤ 1048576) (hl : l.length ≤ 9223372036854775807) : Spec2 Try.prog 59 [.sl .int fun _ => l, .int fun _ => k] [] [.int fun _ => if (l.length : Int) ≤ k then k - l.length else -1] [] := by
  refine fnS [] [4] Try.func59 rfl (by decide) rfl (by decide) (by kernel_rfl) rfl (by simp [Try.ntmps59]) ?_
  cbv
  ((try simp only [IfP_iff, and_true, true_and, decide_eq_true_eq, decide_eq_false_iff_not]); (try simp only [natc, at2_0, at2_1]); (try dsimp only [Ty.den]); (try simp only [natc] at *); (repeat' (first | apply And.intro | intro _)))
  all_goals (try (simp only [IfP_iff, EqU_iff, Obl_iff, and_true, true_and, inI_iff, decide_eq_true_eq, decide_eq_false_iff_not]; (try simp only [natc, at2_0, at2_1]); (try dsimp only [Ty.den]); try simp only [natc] at *))
  all_goals ((repeat' (first | apply And.intro | intro _)) <;> first | omega | (simp only [List.length_append, List.length_cons, List.length_nil]; omega) | grind)
/-- What is left behind rows. -/
def rowsLeft : List (List Int) → Int → Int
  | [], k => k
  | r :: L, k => if (r.length : Int) ≤ k then rowsLeft L (k - r.length) else -1
def sizeL (L : List (List Int)) (k : Int) : Int := if (L.length : Int) ≤ k then rowsLeft L (k - L.length) else -1
theorem rowsLeft_nn : ∀ (L : List (List Int)) (k : Int), -1 ≤ k → -1 ≤ rowsLeft L k
  | [], k, h => h
  | r :: L, k, h => by
    unfold rowsLeft
    split
    · exact rowsLeft_nn L _ (by omega)
    · omega
theorem rowsLeft_le : ∀ (L : List (List Int)) (k : Int), 0 ≤ k → 0 ≤ rowsLeft L k → (∀ s ∈ L, (s.length : Int) ≤ k) ∧ rowsLeft L k ≤ k
  | [], k, _, _ => ⟨fun s hs => by simp at hs, Int.le_refl _⟩
  | r :: L, k, h, h2 => by
    unfold rowsLeft at h2 ⊢
    by_cases hr : (r.length : Int) ≤ k
    · rw [if_pos hr] at h2 ⊢
      obtain ⟨i1, i2⟩ := rowsLeft_le L (k - r.length) (by omega) h2
      refine ⟨fun s hs => ?_, by omega⟩
      rcases List.mem_cons.1 hs with rfl | hs
      · exact hr
      · have := i1 s hs; omega
    · rw [if_neg hr] at h2
      omega
theorem rowsLeft_next {L : List (List Int)} {i k : Int} (h0 : 0 ≤ i) (h1 : i < (L.length : Int)) : rowsLeft (L.drop i.toNat) k = if ((getR .int L i).length : Int) ≤ k then rowsLeft (L.drop (i + 1).toNat) (k - (getR .int L i).length) else -1 := by
  rw [drop_getR h0 h1]
  rfl
theorem la_szRows (L : List (List Int)) (k : Int) (h0 : 0 ≤ k) (h1 : k ≤ 1048576) (hl : L.length ≤ 9223372036854775807) (hm : ∀ s ∈ L, s.length ≤ 9223372036854775807) : Spec2 Try.prog 43 [.sl (.sl .int) fun _ => L, .int fun _ => k] [] [.int fun _ => sizeL L k] [] := by
  have h9 : sizeL L k = _ := rfl
  conv at h9 => rhs; unfold sizeL
  refine fnS [] [4] Try.func43 rfl (by decide) rfl (by decide) (by kernel_rfl) rfl (by simp [Try.ntmps43]) ?_
  cbv
  ((try simp only [IfP_iff, and_true, true_and, decide_eq_true_eq, decide_eq_false_iff_not]); (try simp only [natc, at2_0, at2_1]); (try dsimp only [Ty.den]); (try simp only [natc] at *); (repeat' (first | apply And.intro | intro _)))
  · (simp only [IfP_iff, EqU_iff, Obl_iff, and_true, true_and, inI_iff, decide_eq_true_eq, decide_eq_false_iff_not]; (try simp only [natc, at2_0, at2_1]); (try dsimp only [Ty.den]); try simp only [natc] at *)
    omega
  · (simp only [IfP_iff, EqU_iff, Obl_iff, and_true, true_and, inI_iff, decide_eq_true_eq, decide_eq_false_iff_not]; (try simp only [natc, at2_0, at2_1]); (try dsimp only [Ty.den]); try simp only [natc] at *)
    rw [h9, if_neg (by omega)]
  have hz : sizeL L k = rowsLeft L (k - L.length) := by rw [h9, if_pos (by omega)]
  clear h9
  refine loopP (by kernel_rfl) (fun p : Int × Int => 0 ≤ p.1 ∧ p.1 ≤ L.length ∧ 0 ≤ p.2 ∧ p.2 ≤ 1048576 ∧ rowsLeft (L.drop p.1.toNat) p.2 = sizeL L k) (fun p => [(5, .int fun _ => p.1), (1, .int fun _ => p.2)]) (fun _ => []) (fun p => (L.length - p.1).toNat) (fun p => (p.1 + 1, p.2 - (getR .int L p.1).length)) (0, k - L.length) (by refine ⟨by simp, by simp, by simp; omega, by simp; omega, ?_⟩; rw [hz]; rfl) ?_ ?_
  · cbv
    (simp only [IfP_iff, EqU_iff, Obl_iff, and_true, true_and, inI_iff, decide_eq_true_eq, decide_eq_false_iff_not]; (try simp only [natc, at2_0, at2_1]); (try dsimp only [Ty.den]); try simp only [natc] at *)
  · intro p hp
    have r1 := rowsLeft_next (k := p.2) (L := L) hp.1
    have r2 : p.1 < (L.length : Int) → (getR .int L p.1).length ≤ 9223372036854775807 := fun h => hm _ (getR_mem hp.1 h)
    have r3 : ¬ p.1 < (L.length : Int) → rowsLeft (L.drop p.1.toNat) p.2 = p.2 := fun h => by rw [List.drop_of_length_le (by omega)]; rfl
    have r4 := hp.2.2.2.2
    clear hm
    cbv
    ((try simp only [IfP_iff, and_true, true_and, decide_eq_true_eq, decide_eq_false_iff_not]); (try simp only [natc, at2_0, at2_1]); (try dsimp only [Ty.den]); (try simp only [natc] at *); (repeat' (first | apply And.intro | intro _)))
    all_goals (repeat' (first | ((first | refine call_q (la_szInts (getR .int L p.1) p.2 hp.2.2.1 hp.2.2.2.1 (r2 (by assumption))) (by cbv) ?_ | refine call_pure (la_szInts (getR .int L p.1) p.2 hp.2.2.1 hp.2.2.2.1 (r2 (by assumption))) (by cbv) ?_); cbv; ((try simp only [IfP_iff, and_true, true_and, decide_eq_true_eq, decide_eq_false_iff_not]); (try simp only [natc, at2_0, at2_1]); (try dsimp only [Ty.den]); (try simp only [natc] at *); (repeat' (first | apply And.intro | intro _))))))
    all_goals (try (simp only [IfP_iff, EqU_iff, Obl_iff, and_true, true_and, inI_iff, decide_eq_true_eq, decide_eq_false_iff_not]; (try simp only [natc, at2_0, at2_1]); (try dsimp only [Ty.den]); try simp only [natc] at *))
    all_goals ((repeat' (first | apply And.intro | intro _)) <;> first | omega | (simp only [List.length_append, List.length_cons, List.length_nil]; omega) | grind)
end Go.Proofs.Ytcgeedklfejhbaa.M

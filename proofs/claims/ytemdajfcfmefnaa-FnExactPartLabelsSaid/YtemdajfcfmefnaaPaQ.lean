/- The parts of a Space, on both sides. -/
import Derived.Test.YtemdajfcfmefnaaPtQ
import Derived.Test.YtemdajfcfmefnaaSoQ
import Derived.Test.YtemdajfcfmefnaaCtQ
import Derived.Test.YtemdajfcfmefnaaDmQ
import Derived.Test.YtemdajfcfmefnaaQg
namespace Go.Proofs.Ytemdajfcfmefnaa.M
open Go.RowKit Abs
set_option linter.unusedSimpArgs false
set_option linter.unusedVariables false
set_option maxRecDepth 100000
set_option maxHeartbeats 4000000
theorem getI_gb (l : List Bool) (i : Int) : (getI .bool l i : Bool) = gb l i := rfl
theorem part_step {L : List (List Int)} {l : List (Int × Int)} {k : Int} (h0 : 0 ≤ k) :
    (gb (partsTo L l k.toNat).2 k = true → (partsTo L l (k + 1).toNat).1 = (partsTo L l k.toNat).1 ∧ (partsTo L l (k + 1).toNat).2 = (partsTo L l k.toNat).2) ∧
    (gb (partsTo L l k.toNat).2 k = false → (partsTo L l (k + 1).toNat).1 = (partsTo L l k.toNat).1 ++ [partL L l k] ∧ (partsTo L l (k + 1).toNat).2 = markP (fnd (distR L l k)) (partsTo L l k.toNat).2) := by
  rw [partsTo_next h0]
  unfold pstep
  refine ⟨fun h => by rw [if_pos h]; exact ⟨rfl, rfl⟩, fun h => by rw [if_neg (by rw [h]; simp)]; exact ⟨rfl, rfl⟩⟩
theorem im_parts (L : List (List Int)) (l : List (Int × Int)) (hL : L.length ≤ 1048576) (hl : l.length ≤ 1048576) (hp : pairsOk l L.length = true) : Spec2 Try.prog 75 [.sl (.sl .int) fun _ => nearR l L.length] [] [.ref 0] [some (.rows 26 3 .int fun _ => partsR L l)] := by
  obtain ⟨n1, n2, n3⟩ := near_ok hp
  have hr : ∀ i : Int, 0 ≤ i → i < L.length → Spec2 Try.prog 64 [.sl (.sl .int) fun _ => nearR l L.length, .int fun _ => i, .fnr 65 fun _ => ofCaps []] [] [.ref 0, .ref 1] [some (.row 3 .int fun _ => queR L l i), some (.row 3 .int fun _ => distR L l i)] := fun i h0 h1 => im_reach (nearR l L.length) (fun _ => true) 65 (fun _ => ofCaps []) i h0 (by omega) (by omega) n2 (fun r hr => Nat.le_trans (n3 r hr) hl) (fun v _ _ => ⟨[], rfl, fun _ => rfl, im_any v⟩)
  refine fnS [0] [2] Try.func75 rfl (by decide) rfl (by decide) (by kernel_rfl) rfl (by simp [Try.ntmps75]) ?_
  cbv
  ((try simp only [IfP_iff, and_true, true_and, decide_eq_true_eq, decide_eq_false_iff_not]); (try simp only [natc, getI_gi, at2_0, at2_1]); (try dsimp only [Ty.den]); (try simp only [natc] at *); (repeat' (first | apply And.intro | intro _)))
  rotate_right 1
  · refine loopP (by kernel_rfl) (fun k : Int => 0 ≤ k ∧ k ≤ L.length) (fun k => [(16, .int fun _ => k), (3, .ref 0), (10, .junk)]) (fun k => [(0, some (.rows 26 3 .int fun _ => (partsTo L l k.toNat).1)), (1, some (.row 4 .bool fun _ => (partsTo L l k.toNat).2))]) (fun k => (L.length - k).toNat) (· + 1) 0 (by simp) ?_ ?_
    · have gz : @Eq (List Bool) (List.replicate (((nearR l L.length).length : Int)).toNat (zden Ty.bool)) (List.replicate L.length false) := by rw [n1, Int.toNat_natCast]; rfl
      cbv
      (simp only [IfP_iff, EqU_iff, Obl_iff, and_true, true_and, inI_iff, decide_eq_true_eq, decide_eq_false_iff_not]; (try simp only [natc, getI_gi, at2_0, at2_1]); (try dsimp only [Ty.den]); try simp only [natc] at *)
      rw [gz, (partsTo_zero L l).1, (partsTo_zero L l).2]
      exact ⟨rfl, rfl⟩
    · intro k hk
      have s1 := (part_step (L := L) (l := l) hk.1).1
      have s2 := (part_step (L := L) (l := l) hk.1).2
      have ho := partsTo_ok (l := l) hp k.toNat (by omega)
      have o1 := ho.len
      have o2 := ho.cnt
      have d1 : ¬ k < (L.length : Int) → (partsTo L l k.toNat).1 = partsR L l := fun a => by rw [show k.toNat = L.length by omega]; rfl
      have w1 : k < (L.length : Int) → (queR L l k).length ≤ 1048576 := fun a => by have := (queue_nd hp hk.1 a).2; omega
      clear ho
      cbv
      ((try simp only [IfP_iff, and_true, true_and, decide_eq_true_eq, decide_eq_false_iff_not]); (try simp only [natc, getI_gi, at2_0, at2_1]); (try dsimp only [Ty.den]); (try simp only [natc] at *); (repeat' (first | apply And.intro | intro _)))
      rotate_right 2
      · have hkn : k < (L.length : Int) := by omega
        have hq := queue_mem (l := l) hp hk.1 hkn
        have e1 := queue_sorted (l := l) hp hk.1 hkn (srt_asc (queR L l k)) (srt_perm (queR L l k))
        have e2 := s2 (by assumption)
        have e3 := (queue_nd (l := l) hp hk.1 hkn).2
        have v2 : ∀ j : Int, 0 ≤ j → j < ((queR L l k).length : Int) → 0 ≤ gi (queR L l k) j ∧ gi (queR L l k) j < L.length := fun j a b => by have := (hq _).1 (gi_mem a b); omega
        have v3 : ∀ j : Int, 0 ≤ j → j < ((queR L l k).length : Int) → setI (markP (hasB ((queR L l k).take j.toNat)) (partsTo L l k.toNat).2) (gi (queR L l k) j) true = markP (hasB ((queR L l k).take (j + 1).toNat)) (partsTo L l k.toNat).2 := fun j a b => by
          rw [markP_set (v2 j a b).1 (by rw [o1]; exact (v2 j a b).2), take_gi a b]
          refine markP_congr fun x _ _ => ?_
          unfold hasB
          rw [List.any_append]
          simp
        have v4 : ∀ j : Int, ¬ j < ((queR L l k).length : Int) → markP (hasB ((queR L l k).take j.toNat)) (partsTo L l k.toNat).2 = markP (fnd (distR L l k)) (partsTo L l k.toNat).2 := fun j a => by
          rw [take_all a]
          refine markP_congr fun x x0 x1 => ?_
          rw [o1] at x1
          cases hb : hasB (queR L l k) x with
          | true => exact ((hq x).1 (hasB_iff.1 hb)).2.2.symm
          | false =>
            cases hc : fnd (distR L l k) x with
            | false => rfl
            | true =>
              have := hasB_iff.2 ((hq x).2 ⟨x0, x1, hc⟩)
              rw [hb] at this
              cases this
        ((first | refine call_q (hr k hk.1 hkn) (by cbv) ?_ | refine call_pure (hr k hk.1 hkn) (by cbv) ?_); cbv; ((try simp only [IfP_iff, and_true, true_and, decide_eq_true_eq, decide_eq_false_iff_not]); (try simp only [natc, getI_gi, at2_0, at2_1]); (try dsimp only [Ty.den]); (try simp only [natc] at *); (repeat' (first | apply And.intro | intro _))))
        refine loopP (by kernel_rfl) (fun j : Int => 0 ≤ j ∧ j ≤ (queR L l k).length) (fun j => [(31, .int fun _ => j)]) (fun j => [(1, some (.row 4 .bool fun _ => markP (hasB ((queR L l k).take j.toNat)) (partsTo L l k.toNat).2))]) (fun j => ((queR L l k).length - j).toNat) (· + 1) 0 (by simp) ?_ ?_
        · cbv
          (simp only [IfP_iff, EqU_iff, Obl_iff, and_true, true_and, inI_iff, decide_eq_true_eq, decide_eq_false_iff_not]; (try simp only [natc, getI_gi, at2_0, at2_1]); (try dsimp only [Ty.den]); try simp only [natc] at *)
          rw [show Int.toNat 0 = 0 from rfl, List.take_zero]
          exact (markP_none _).symm
        · intro j hj
          have v1 := v2 j hj.1
          have v5 := v3 j hj.1
          have v6 := v4 j
          have v7 := markP_len (hasB ((queR L l k).take j.toNat)) (partsTo L l k.toNat).2
          clear v2 v3 v4 hq s1 s2
          cbv
          ((try simp only [IfP_iff, and_true, true_and, decide_eq_true_eq, decide_eq_false_iff_not]); (try simp only [natc, getI_gi, at2_0, at2_1]); (try dsimp only [Ty.den]); (try simp only [natc] at *); (repeat' (first | apply And.intro | intro _)))
          all_goals (repeat' (first | (refine call_own 2 (go_sort (queR L l k) (by omega)) (by cbv) (by cbv; simp only [or_true, true_or, and_true]) ?_; cbv; ((try simp only [IfP_iff, and_true, true_and, decide_eq_true_eq, decide_eq_false_iff_not]); (try simp only [natc, getI_gi, at2_0, at2_1]); (try dsimp only [Ty.den]); (try simp only [natc] at *); (repeat' (first | apply And.intro | intro _))))))
          all_goals (try (simp only [IfP_iff, EqU_iff, Obl_iff, and_true, true_and, inI_iff, decide_eq_true_eq, decide_eq_false_iff_not]; (try simp only [natc, getI_gi, at2_0, at2_1]); (try dsimp only [Ty.den]); try simp only [natc] at *))
          all_goals ((repeat' (first | apply And.intro | intro _)) <;> first | omega | (rw [e2.1, e1]; done) | (rw [e2.2]; exact v6 (by assumption)) | exact v5 (by assumption) | (have := v1 (by assumption); rw [v7, o1]; omega) | (simp only [List.length_cons, List.length_nil]; omega) | grind)
      all_goals (try (simp only [IfP_iff, EqU_iff, Obl_iff, and_true, true_and, inI_iff, decide_eq_true_eq, decide_eq_false_iff_not]; (try simp only [natc, getI_gi, at2_0, at2_1]); (try dsimp only [Ty.den]); try simp only [natc] at *))
      all_goals ((repeat' (first | apply And.intro | intro _)) <;> first | omega | (rw [(s1 (by assumption)).1]; done) | (rw [(s1 (by assumption)).2]; done) | grind)
  all_goals (try (simp only [IfP_iff, EqU_iff, Obl_iff, and_true, true_and, inI_iff, decide_eq_true_eq, decide_eq_false_iff_not]; (try simp only [natc, getI_gi, at2_0, at2_1]); (try dsimp only [Ty.den]); try simp only [natc] at *))
  all_goals ((repeat' (first | apply And.intro | intro _)) <;> first | omega | (simp only [List.length_append, List.length_cons, List.length_nil]; omega) | grind)
def fndTo (D : List Int) (j : Int) (v : Int) : Bool := fnd D v && decide (v < j)
theorem fndTo_zero (D : List Int) : ∀ s : List Bool, markP (fndTo D 0) s = s := fun s => by
  have := markP_congr (p := fndTo D 0) (q := fun _ => false) (s := s) fun j h0 h1 => by
    unfold fndTo
    rw [show decide (j < 0) = false by rw [decide_eq_false_iff_not]; omega, Bool.and_false]
  rw [this, markP_none]
theorem part_mark {D : List Int} {s : List Bool} {j : Int} (h0 : 0 ≤ j) :
    (0 ≤ gi D j → j < (s.length : Int) → setI (markP (fndTo D j) s) j true = markP (fndTo D (j + 1)) s) ∧ (¬ 0 ≤ gi D j → markP (fndTo D j) s = markP (fndTo D (j + 1)) s) ∧ (¬ j < (s.length : Int) → markP (fndTo D j) s = markP (fnd D) s) := by
  refine ⟨fun a b => ?_, fun a => markP_congr fun v v0 v1 => ?_, fun a => markP_congr fun v v0 v1 => ?_⟩
  · rw [markP_set h0 b]
    refine markP_congr fun v v0 v1 => ?_
    unfold fndTo
    by_cases e : v = j
    · subst e
      simp [fnd, a]
      omega
    · have e1 : decide (v < j + 1) = decide (v < j) := by rw [decide_eq_decide]; omega
      simp [e, e1]
  · unfold fndTo
    by_cases e : v = j
    · subst e
      simp [fnd, a]
    · have e1 : decide (v < j + 1) = decide (v < j) := by rw [decide_eq_decide]; omega
      rw [e1]
  · unfold fndTo
    rw [show decide (v < j) = true by rw [decide_eq_true_eq]; omega, Bool.and_true]
theorem part_pref {D : List Int} {j : Int} (h0 : 0 ≤ j) : (0 ≤ gi D j → pref (fnd D) (j + 1).toNat = pref (fnd D) j.toNat ++ [j]) ∧ (¬ 0 ≤ gi D j → pref (fnd D) (j + 1).toNat = pref (fnd D) j.toNat) := by
  have := pref_next (p := fnd D) h0
  refine ⟨fun a => ?_, fun a => ?_⟩
  · rw [this, if_pos (by simpa [fnd] using a)]
  · rw [this, if_neg (by simpa [fnd] using a), List.append_nil]
theorem sp_parts (L : List (List Int)) (l : List (Int × Int)) (hL : L.length ≤ 1048576) (hl : l.length ≤ 1048576) (hp : pairsOk l L.length = true) : Spec2 Try.prog 73 [.agg (.pr (.sl (.sl .int)) (.sl (.pr .int .int))) fun _ => (L, l)] [] [.ref 0] [some (.rows 26 3 .int fun _ => partsR L l)] := by
  obtain ⟨n1, n2, n3⟩ := near_ok hp
  have hs : ∀ i : Int, 0 ≤ i → i < L.length → Spec2 Try.prog 70 [.sl (.sl .int) fun _ => nearR l L.length, .int fun _ => i] [] [.ref 0] [some (.row 3 .int fun _ => distR L l i)] := fun i h0 h1 => sp_spread (nearR l L.length) i h0 (by omega) (by omega) n2 (fun r hr => Nat.le_trans (n3 r hr) hl)
  refine fnS [1] [2] Try.func73 rfl (by decide) rfl (by decide) (by kernel_rfl) rfl (by simp [Try.ntmps73]) ?_
  cbv
  repeat' (first | ((first | refine call_q (sp_lists L l hL hl hp) (by cbv) ?_ | refine call_pure (sp_lists L l hL hl hp) (by cbv) ?_); cbv; ((try simp only [IfP_iff, and_true, true_and, decide_eq_true_eq, decide_eq_false_iff_not]); (try simp only [natc, getI_gi, at2_0, at2_1]); (try dsimp only [Ty.den]); (try simp only [natc] at *); (repeat' (first | apply And.intro | intro _)))))
  rotate_right 1
  · refine loopP (by kernel_rfl) (fun k : Int => 0 ≤ k ∧ k ≤ L.length) (fun k => [(6, .int fun _ => k), (3, .ref 1), (10, .junk)]) (fun k => [(1, some (.rows 26 3 .int fun _ => (partsTo L l k.toNat).1)), (3, some (.row 4 .bool fun _ => (partsTo L l k.toNat).2))]) (fun k => (L.length - k).toNat) (· + 1) 0 (by simp) ?_ ?_
    · have gz : @Eq (List Bool) (List.replicate (((nearR l L.length).length : Int)).toNat (zden Ty.bool)) (List.replicate L.length false) := by rw [n1, Int.toNat_natCast]; rfl
      cbv
      (simp only [IfP_iff, EqU_iff, Obl_iff, and_true, true_and, inI_iff, decide_eq_true_eq, decide_eq_false_iff_not]; (try simp only [natc, getI_gi, at2_0, at2_1]); (try dsimp only [Ty.den]); try simp only [natc] at *)
      rw [gz, (partsTo_zero L l).1, (partsTo_zero L l).2]
      exact ⟨rfl, rfl⟩
    · intro k hk
      have s1 := (part_step (L := L) (l := l) hk.1).1
      have s2 := (part_step (L := L) (l := l) hk.1).2
      have ho := partsTo_ok (l := l) hp k.toNat (by omega)
      have o1 := ho.len
      have o2 := ho.cnt
      have d1 : ¬ k < (L.length : Int) → (partsTo L l k.toNat).1 = partsR L l := fun a => by rw [show k.toNat = L.length by omega]; rfl
      have w1 : k < (L.length : Int) → (distR L l k).length = L.length := fun a => (dist_ok hp hk.1 a).1
      clear ho
      cbv
      ((try simp only [IfP_iff, and_true, true_and, decide_eq_true_eq, decide_eq_false_iff_not]); (try simp only [natc, getI_gi, at2_0, at2_1]); (try dsimp only [Ty.den]); (try simp only [natc] at *); (repeat' (first | apply And.intro | intro _)))
      all_goals (try simp only [getI_gb] at *)
      rotate_right 2
      · have hkn : k < (L.length : Int) := by omega
        have e2 := s2 (by assumption)
        have e3 := w1 hkn
        have w3 := fndTo_zero (distR L l k)
        have g5 := fun j : Int => part_mark (D := distR L l k) (s := (partsTo L l k.toNat).2) (j := j)
        have g6 := fun j : Int => part_pref (D := distR L l k) (j := j)
        ((first | refine call_q (hs k hk.1 hkn) (by cbv) ?_ | refine call_pure (hs k hk.1 hkn) (by cbv) ?_); cbv; ((try simp only [IfP_iff, and_true, true_and, decide_eq_true_eq, decide_eq_false_iff_not]); (try simp only [natc, getI_gi, at2_0, at2_1]); (try dsimp only [Ty.den]); (try simp only [natc] at *); (repeat' (first | apply And.intro | intro _))))
        refine loopP (by kernel_rfl) (fun j : Int => 0 ≤ j ∧ j ≤ L.length) (fun j => [(9, .int fun _ => j), (7, .ref 4), (26, .junk)]) (fun j => [(4, some (.row 3 .int fun _ => pref (fnd (distR L l k)) j.toNat)), (3, some (.row 4 .bool fun _ => markP (fndTo (distR L l k) j) (partsTo L l k.toNat).2))]) (fun j => (L.length - j).toNat) (· + 1) 0 (by simp) ?_ ?_
        · cbv
          (simp only [IfP_iff, EqU_iff, Obl_iff, and_true, true_and, inI_iff, decide_eq_true_eq, decide_eq_false_iff_not]; (try simp only [natc, getI_gi, at2_0, at2_1]); (try dsimp only [Ty.den]); try simp only [natc] at *)
          exact ⟨(w3 _).symm, rfl⟩
        · intro j hj
          have v1 := g5 j hj.1
          have v2 := g6 j hj.1
          have v5 := pref_len (p := fnd (distR L l k)) hj.1
          have v7 := markP_len (fndTo (distR L l k) j) (partsTo L l k.toNat).2
          have v8 : pref (fnd (distR L l k)) L.length = partL L l k := rfl
          clear g5 g6 s1 s2
          cbv
          ((try simp only [IfP_iff, and_true, true_and, decide_eq_true_eq, decide_eq_false_iff_not]); (try simp only [natc, getI_gi, at2_0, at2_1]); (try dsimp only [Ty.den]); (try simp only [natc] at *); (repeat' (first | apply And.intro | intro _)))
          all_goals (try (simp only [IfP_iff, EqU_iff, Obl_iff, and_true, true_and, inI_iff, decide_eq_true_eq, decide_eq_false_iff_not]; (try simp only [natc, getI_gi, at2_0, at2_1]); (try dsimp only [Ty.den]); try simp only [natc] at *))
          all_goals ((repeat' (first | apply And.intro | intro _)) <;> first | omega | exact v1.1 (by omega) (by omega) | exact v1.2.1 (by omega) | exact (v2.1 (by omega)).symm | exact (v2.2 (by omega)).symm | (rw [e2.1, show j.toNat = L.length by omega]; rfl) | (rw [e2.2]; exact v1.2.2 (by omega)) | (rw [v7, o1]; omega) | (simp only [List.length_append, List.length_cons, List.length_nil]; omega) | grind)
      all_goals (try (simp only [IfP_iff, EqU_iff, Obl_iff, and_true, true_and, inI_iff, decide_eq_true_eq, decide_eq_false_iff_not]; (try simp only [natc, getI_gi, at2_0, at2_1]); (try dsimp only [Ty.den]); try simp only [natc] at *))
      all_goals ((repeat' (first | apply And.intro | intro _)) <;> first | omega | (rw [(s1 (by assumption)).1]; done) | (rw [(s1 (by assumption)).2]; done) | grind)
  all_goals (try (simp only [IfP_iff, EqU_iff, Obl_iff, and_true, true_and, inI_iff, decide_eq_true_eq, decide_eq_false_iff_not]; (try simp only [natc, getI_gi, at2_0, at2_1]); (try dsimp only [Ty.den]); try simp only [natc] at *))
  all_goals ((repeat' (first | apply And.intro | intro _)) <;> first | omega | (simp only [List.length_append, List.length_cons, List.length_nil]; omega) | grind)
def partsF (L : List (List Int)) (l : List (Int × Int)) : List (List Int) := if spaceOk L l = true then partsR L l else []
theorem sp_partsOf (L : List (List Int)) (l : List (Int × Int)) (hL : L.length ≤ 1048576) (hl : l.length ≤ 1048576) (hm : ∀ s ∈ L, s.length ≤ 1048576) : Spec2 Try.prog 34 [.agg (.pr (.sl (.sl .int)) (.sl (.pr .int .int))) fun _ => (L, l)] [] [.ref 0, .bool fun _ => spaceOk L l] [some (.rows 26 3 .int fun _ => partsF L l)] := by
  unfold partsF
  cases hb : spaceOk L l with
  | false =>
    simp only [Bool.false_eq_true, if_false]
    refine fnS [1] [2, 3] Try.func34 rfl (by decide) rfl (by decide) (by kernel_rfl) rfl (by simp [Try.ntmps34]) ?_
    cbv
    ((first | refine call_q (sp_space L l hL hl hm) (by cbv) ?_ | refine call_pure (sp_space L l hL hl hm) (by cbv) ?_); cbv; ((try simp only [IfP_iff, and_true, true_and, decide_eq_true_eq, decide_eq_false_iff_not]); (try simp only [natc, getI_gi, at2_0, at2_1]); (try dsimp only [Ty.den]); (try simp only [natc] at *); (repeat' (first | apply And.intro | intro _))))
    all_goals (try (simp only [IfP_iff, EqU_iff, Obl_iff, and_true, true_and, inI_iff, decide_eq_true_eq, decide_eq_false_iff_not]; (try simp only [natc, getI_gi, at2_0, at2_1]); (try dsimp only [Ty.den]); try simp only [natc] at *))
    all_goals (first | omega | (exfalso; grind) | skip)
  | true =>
    simp only [if_true]
    have hp := (space_parts hb).2.2.2
    refine fnS [1] [2, 3] Try.func34 rfl (by decide) rfl (by decide) (by kernel_rfl) rfl (by simp [Try.ntmps34]) ?_
    cbv
    repeat' (first | ((first | refine call_q (sp_space L l hL hl hm) (by cbv) ?_ | refine call_pure (sp_space L l hL hl hm) (by cbv) ?_); cbv; ((try simp only [IfP_iff, and_true, true_and, decide_eq_true_eq, decide_eq_false_iff_not]); (try simp only [natc, getI_gi, at2_0, at2_1]); (try dsimp only [Ty.den]); (try simp only [natc] at *); (repeat' (first | apply And.intro | intro _)))) | ((first | refine call_q (sp_parts L l hL hl hp) (by cbv) ?_ | refine call_pure (sp_parts L l hL hl hp) (by cbv) ?_); cbv; ((try simp only [IfP_iff, and_true, true_and, decide_eq_true_eq, decide_eq_false_iff_not]); (try simp only [natc, getI_gi, at2_0, at2_1]); (try dsimp only [Ty.den]); (try simp only [natc] at *); (repeat' (first | apply And.intro | intro _)))))
    all_goals (try (simp only [IfP_iff, EqU_iff, Obl_iff, and_true, true_and, inI_iff, decide_eq_true_eq, decide_eq_false_iff_not]; (try simp only [natc, getI_gi, at2_0, at2_1]); (try dsimp only [Ty.den]); try simp only [natc] at *))
    all_goals (first | omega | (exfalso; grind) | skip)
theorem im_partsOf (L : List (List Int)) (l : List (Int × Int)) (hL : L.length ≤ 1048576) (hl : l.length ≤ 1048576) (hm : ∀ s ∈ L, s.length ≤ 1048576) : Spec2 Try.prog 35 [.agg (.pr (.sl (.sl .int)) (.sl (.pr .int .int))) fun _ => (L, l)] [] [.ref 0, .bool fun _ => spaceOk L l] [some (.rows 26 3 .int fun _ => partsF L l)] := by
  unfold partsF
  cases hb : spaceOk L l with
  | false =>
    simp only [Bool.false_eq_true, if_false]
    refine fnS [1] [2, 3] Try.func35 rfl (by decide) rfl (by decide) (by kernel_rfl) rfl (by simp [Try.ntmps35]) ?_
    cbv
    ((first | refine call_q (im_space L l hL hl hm) (by cbv) ?_ | refine call_pure (im_space L l hL hl hm) (by cbv) ?_); cbv; ((try simp only [IfP_iff, and_true, true_and, decide_eq_true_eq, decide_eq_false_iff_not]); (try simp only [natc, getI_gi, at2_0, at2_1]); (try dsimp only [Ty.den]); (try simp only [natc] at *); (repeat' (first | apply And.intro | intro _))))
    all_goals (try (simp only [IfP_iff, EqU_iff, Obl_iff, and_true, true_and, inI_iff, decide_eq_true_eq, decide_eq_false_iff_not]; (try simp only [natc, getI_gi, at2_0, at2_1]); (try dsimp only [Ty.den]); try simp only [natc] at *))
    all_goals (first | omega | (exfalso; grind) | skip)
  | true =>
    simp only [if_true]
    have hp := (space_parts hb).2.2.2
    refine fnS [2] [2, 3] Try.func35 rfl (by decide) rfl (by decide) (by kernel_rfl) rfl (by simp [Try.ntmps35]) ?_
    cbv
    repeat' (first | ((first | refine call_q (im_space L l hL hl hm) (by cbv) ?_ | refine call_pure (im_space L l hL hl hm) (by cbv) ?_); cbv; ((try simp only [IfP_iff, and_true, true_and, decide_eq_true_eq, decide_eq_false_iff_not]); (try simp only [natc, getI_gi, at2_0, at2_1]); (try dsimp only [Ty.den]); (try simp only [natc] at *); (repeat' (first | apply And.intro | intro _)))) | ((first | refine call_q (im_stepLists L l hL hl hp) (by cbv) ?_ | refine call_pure (im_stepLists L l hL hl hp) (by cbv) ?_); cbv; ((try simp only [IfP_iff, and_true, true_and, decide_eq_true_eq, decide_eq_false_iff_not]); (try simp only [natc, getI_gi, at2_0, at2_1]); (try dsimp only [Ty.den]); (try simp only [natc] at *); (repeat' (first | apply And.intro | intro _)))) | ((first | refine call_q (im_parts L l hL hl hp) (by cbv) ?_ | refine call_pure (im_parts L l hL hl hp) (by cbv) ?_); cbv; ((try simp only [IfP_iff, and_true, true_and, decide_eq_true_eq, decide_eq_false_iff_not]); (try simp only [natc, getI_gi, at2_0, at2_1]); (try dsimp only [Ty.den]); (try simp only [natc] at *); (repeat' (first | apply And.intro | intro _)))))
    all_goals (try (simp only [IfP_iff, EqU_iff, Obl_iff, and_true, true_and, inI_iff, decide_eq_true_eq, decide_eq_false_iff_not]; (try simp only [natc, getI_gi, at2_0, at2_1]); (try dsimp only [Ty.den]); try simp only [natc] at *))
    all_goals (first | omega | (exfalso; grind) | skip)
end Go.Proofs.Ytemdajfcfmefnaa.M

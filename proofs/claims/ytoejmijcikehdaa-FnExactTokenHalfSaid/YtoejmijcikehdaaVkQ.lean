/- SortSwaps, on both sides. -/
import Derived.Test.YtoejmijcikehdaaVjQ
import Derived.Test.YtoejmijcikehdaaJnQ
import Derived.Test.YtoejmijcikehdaaQg
namespace Go.Proofs.Ytoejmijcikehdaa.M
open Go.RowKit Abs
set_option linter.unusedSimpArgs false
set_option linter.unusedVariables false
set_option maxRecDepth 100000
set_option maxHeartbeats 4000000
theorem im_permPlace2 (n x : Int) (l : List Int) (hl : l.length = 8) (h0 : 0 ≤ n) (h1 : n ≤ 8) : Spec2 Try.prog 58 [.agg (.pr .int (.ar 7 .int)) fun _ => (gi (n :: l) 0, List.drop 1 (n :: l)), .int fun _ => x] [] [.int fun _ => atI (l.take n.toNat) x] [] := im_permPlace n x l hl h0 h1
theorem place_at {p : List Int} (hb : permB p = true) (h8 : p.length ≤ 8) {k : Int} (k0 : 0 ≤ k) (hlt : k < (p.length : Int)) : Spec2 Try.prog 58 [.agg (.pr .int (.ar 7 .int)) fun _ => (gi ((p.length : Int) :: padO (srtP p k)) 0, List.drop 1 ((p.length : Int) :: padO (srtP p k))), .int fun _ => k] [] [.int fun _ => atI (srtP p k) k] [] := by
  obtain ⟨g1, g2, g3, g4, g5⟩ := srt_ok hb k0 hlt
  have e4 : (padO (srtP p k)).length = 8 := padO_len (by omega)
  have e5 : (padO (srtP p k)).take ((p.length : Int)).toNat = srtP p k := by
    rw [← g2, Int.toNat_natCast]
    exact padO_take
  have c1 := im_permPlace2 (p.length : Int) k (padO (srtP p k)) e4 (by omega) (by omega)
  rw [e5] at c1
  exact c1
theorem swap_at {p : List Int} (hb : permB p = true) (h8 : p.length ≤ 8) {k : Int} (k0 : 0 ≤ k) (hlt : k < (p.length : Int)) : Spec2 Try.prog 59 [.agg (.pr .int (.ar 7 .int)) fun _ => (gi ((p.length : Int) :: padO (srtP p k)) 0, List.drop 1 ((p.length : Int) :: padO (srtP p k))), .agg (.pr .int .int) fun _ => (k, atI (srtP p k) k)] [] [.agg (.pr .int (.ar 7 .int)) fun _ => ((p.length : Int), swp (padO (srtP p k)) k (atI (srtP p k) k))] [] := by
  obtain ⟨g1, g2, g3, g4, g5⟩ := srt_ok hb k0 hlt
  have e4 : (padO (srtP p k)).length = 8 := padO_len (by omega)
  exact im_swapped2 (p.length : Int) (padO (srtP p k)) (k, atI (srtP p k) k) e4 k0 (by show k < 8; omega) (by show 0 ≤ atI (srtP p k) k; omega) (by show atI (srtP p k) k < 8; omega)
theorem im_sortSwaps (p : List Int) (hp : p.length ≤ 1048576) : Spec2 Try.prog 28 [.sl .int fun _ => p] [] [.ref 0, .bool fun _ => permB p] [some (.row 66 (.pr .int .int) fun _ => sortR p)] := by
  have hq := im_permOf p hp
  have h2 : sortR p = _ := rfl
  conv at h2 => rhs; unfold sortR
  cases hb : permB p with
  | false =>
    rw [hb, show permV p = (0, List.replicate 8 0) by unfold permV; rw [hb, if_neg (by decide)]] at hq
    rw [hb, if_neg (by decide)] at h2
    rw [h2]
    refine fnS [1] [2, 3] Try.func28 rfl (by decide) rfl (by decide) (by kernel_rfl) rfl (by simp [Try.ntmps28]) ?_
    cbv
    ((try simp only [IfP_iff, and_true, true_and, decide_eq_true_eq, decide_eq_false_iff_not]); (try simp only [natc, getI_gi, at2_0, at2_1]); (try dsimp only [Ty.den]); (try simp only [natc] at *); (repeat' (first | apply And.intro | intro _)))
    all_goals (repeat' (first | ((first | refine call_q hq (by cbv) ?_ | refine call_pure hq (by cbv) ?_); cbv; ((try simp only [IfP_iff, and_true, true_and, decide_eq_true_eq, decide_eq_false_iff_not]); (try simp only [natc, getI_gi, at2_0, at2_1]); (try dsimp only [Ty.den]); (try simp only [natc] at *); (repeat' (first | apply And.intro | intro _))))))
    all_goals (try (exact absurd (by assumption : (!false) = false) (by decide)))
    all_goals (try (simp only [IfP_iff, EqU_iff, Obl_iff, and_true, true_and, inI_iff, decide_eq_true_eq, decide_eq_false_iff_not]; (try simp only [natc, getI_gi, at2_0, at2_1]); (try dsimp only [Ty.den]); try simp only [natc] at *))
    all_goals (first | exact ⟨rfl, rfl⟩ | rfl | trace_state)
  | true =>
    rw [hb, show permV p = ((p.length : Int), padO p) by unfold permV; rw [hb, if_pos rfl]] at hq
    rw [hb, if_pos rfl] at h2
    rw [h2]
    have h8 := (perm_ok hb).1
    refine fnS [1] [2, 3] Try.func28 rfl (by decide) rfl (by decide) (by kernel_rfl) rfl (by simp [Try.ntmps28]) ?_
    cbv
    ((try simp only [IfP_iff, and_true, true_and, decide_eq_true_eq, decide_eq_false_iff_not]); (try simp only [natc, getI_gi, at2_0, at2_1]); (try dsimp only [Ty.den]); (try simp only [natc] at *); (repeat' (first | apply And.intro | intro _)))
    all_goals (repeat' (first | ((first | refine call_q hq (by cbv) ?_ | refine call_pure hq (by cbv) ?_); cbv; ((try simp only [IfP_iff, and_true, true_and, decide_eq_true_eq, decide_eq_false_iff_not]); (try simp only [natc, getI_gi, at2_0, at2_1]); (try dsimp only [Ty.den]); (try simp only [natc] at *); (repeat' (first | apply And.intro | intro _))))))
    all_goals (try (exact absurd (by assumption : (!true) = true) (by decide)))
    refine loopX (by kernel_rfl) (fun k : Int => 0 ≤ k ∧ k ≤ p.length) (fun k => [(21, .int fun _ => k), (6, .ref 1), (18, .junk)]) (fun k => [(0, some (.arr 70 8 .int fun _ => (p.length : Int) :: padO (srtP p k))), (1, some (.row 66 (.pr .int .int) fun _ => srtL p k))]) (fun k => (p.length - k).toNat) (· + 1) 0 (by omega) ?_ ?_
    · cbv
      (simp only [IfP_iff, EqU_iff, Obl_iff, and_true, true_and, inI_iff, decide_eq_true_eq, decide_eq_false_iff_not]; (try simp only [natc, getI_gi, at2_0, at2_1]); (try dsimp only [Ty.den]); try simp only [natc] at *)
      exact ⟨rfl, rfl⟩
    · intro k hk
      have i0 := fun h => srt_ok hb hk.1 h
      have i1 := (srt_next (p := p) hk.1).1
      have i2 := (srt_next (p := p) hk.1).2
      have i3 : ¬ k < (p.length : Int) → srtL p k = srtL p p.length := fun h => by rw [show k = p.length by omega]
      have c1 : k < (p.length : Int) → Spec2 Try.prog 58 [.agg (.pr .int (.ar 7 .int)) fun _ => (gi ((p.length : Int) :: padO (srtP p k)) 0, List.drop 1 ((p.length : Int) :: padO (srtP p k))), .int fun _ => k] [] [.int fun _ => atI (srtP p k) k] [] := fun hlt => place_at hb h8 hk.1 hlt
      have c2 : k < (p.length : Int) → Spec2 Try.prog 59 [.agg (.pr .int (.ar 7 .int)) fun _ => (gi ((p.length : Int) :: padO (srtP p k)) 0, List.drop 1 ((p.length : Int) :: padO (srtP p k))), .agg (.pr .int .int) fun _ => (k, atI (srtP p k) k)] [] [.agg (.pr .int (.ar 7 .int)) fun _ => ((p.length : Int), swp (padO (srtP p k)) k (atI (srtP p k) k))] [] := fun hlt => swap_at hb h8 hk.1 hlt
      have i4 : k < (p.length : Int) → k < atI (srtP p k) k → swp (padO (srtP p k)) k (atI (srtP p k) k) = padO (srtP p (k + 1)) ∧ srtL p k ++ [(k, atI (srtP p k) k)] = srtL p (k + 1) := fun hlt h => by
        have g := i0 hlt
        rw [swp_pad hk.1 (by omega) (by omega) (by omega), (i1 h).1]
        exact ⟨rfl, (i1 h).2⟩
      have i5 : k < (p.length : Int) → (srtL p k).length ≤ 1048576 := fun hlt => by have := (i0 hlt).2.2.1; omega
      clear i0 i1 hb
      cbv
      ((try simp only [IfP_iff, and_true, true_and, decide_eq_true_eq, decide_eq_false_iff_not]); (try simp only [natc, getI_gi, at2_0, at2_1]); (try dsimp only [Ty.den]); (try simp only [natc] at *); (repeat' (first | apply And.intro | intro _)))
      all_goals (repeat' (first | ((first | refine call_q (c1 (by assumption)) (by cbv) ?_ | refine call_pure (c1 (by assumption)) (by cbv) ?_); cbv; ((try simp only [IfP_iff, and_true, true_and, decide_eq_true_eq, decide_eq_false_iff_not]); (try simp only [natc, getI_gi, at2_0, at2_1]); (try dsimp only [Ty.den]); (try simp only [natc] at *); (repeat' (first | apply And.intro | intro _)))) | ((first | refine call_q (c2 (by assumption)) (by cbv) ?_ | refine call_pure (c2 (by assumption)) (by cbv) ?_); cbv; ((try simp only [IfP_iff, and_true, true_and, decide_eq_true_eq, decide_eq_false_iff_not]); (try simp only [natc, getI_gi, at2_0, at2_1]); (try dsimp only [Ty.den]); (try simp only [natc] at *); (repeat' (first | apply And.intro | intro _))))))
      all_goals (try clear c1 c2)
      all_goals (try have i5 := i5 (by assumption))
      all_goals (try (show Obl _; (simp only [IfP_iff, EqU_iff, Obl_iff, and_true, true_and, inI_iff, decide_eq_true_eq, decide_eq_false_iff_not]; (try simp only [natc, getI_gi, at2_0, at2_1]); (try dsimp only [Ty.den]); try simp only [natc] at *); ((repeat' (first | apply And.intro | intro _)) <;> first | omega | (simp only [List.length_cons, List.length_nil]; omega))))
      · refine RenL.mk ⟨[0, 1], ?_⟩
        cbv
        (simp only [IfP_iff, EqU_iff, Obl_iff, and_true, true_and, inI_iff, decide_eq_true_eq, decide_eq_false_iff_not]; (try simp only [natc, getI_gi, at2_0, at2_1]); (try dsimp only [Ty.den]); try simp only [natc] at *)
        have := i4 (by assumption) (by assumption)
        rw [this.1]
        exact ⟨rfl, this.2⟩
      · refine RenL.mk ⟨[0, 1], ?_⟩
        cbv
        (simp only [IfP_iff, EqU_iff, Obl_iff, and_true, true_and, inI_iff, decide_eq_true_eq, decide_eq_false_iff_not]; (try simp only [natc, getI_gi, at2_0, at2_1]); (try dsimp only [Ty.den]); try simp only [natc] at *)
        have := i2 (by assumption)
        rw [← this.1, ← this.2]
        exact ⟨rfl, rfl⟩
      · (simp only [IfP_iff, EqU_iff, Obl_iff, and_true, true_and, inI_iff, decide_eq_true_eq, decide_eq_false_iff_not]; (try simp only [natc, getI_gi, at2_0, at2_1]); (try dsimp only [Ty.den]); try simp only [natc] at *)
      · (simp only [IfP_iff, EqU_iff, Obl_iff, and_true, true_and, inI_iff, decide_eq_true_eq, decide_eq_false_iff_not]; (try simp only [natc, getI_gi, at2_0, at2_1]); (try dsimp only [Ty.den]); try simp only [natc] at *)
        exact i3 (by assumption)
theorem srt_len {p : List Int} (h : permB p = true) {x : Int} (h0 : 0 ≤ x) (h1 : x ≤ p.length) : (srtP p x).length = p.length ∧ ((srtL p x).length : Int) ≤ x := by
  obtain ⟨i1, i2, i3, i4⟩ := srtN_ok h (k := x.toNat) (by omega)
  exact ⟨i2, by show (((srtN p x.toNat).2.length : Nat) : Int) ≤ x; omega⟩
theorem sp_sortSwaps (p : List Int) (hp : p.length ≤ 1048576) : Spec2 Try.prog 27 [.sl .int fun _ => p] [] [.ref 0, .bool fun _ => permB p] [some (.row 66 (.pr .int .int) fun _ => sortR p)] := by
  have hq := sp_perm p hp
  have h2 : sortR p = _ := rfl
  conv at h2 => rhs; unfold sortR
  cases hb : permB p with
  | false =>
    rw [hb] at hq
    rw [hb, if_neg (by decide)] at h2
    rw [h2]
    refine fnS [0] [2, 3] Try.func27 rfl (by decide) rfl (by decide) (by kernel_rfl) rfl (by simp [Try.ntmps27]) ?_
    cbv
    ((try simp only [IfP_iff, and_true, true_and, decide_eq_true_eq, decide_eq_false_iff_not]); (try simp only [natc, getI_gi, at2_0, at2_1]); (try dsimp only [Ty.den]); (try simp only [natc] at *); (repeat' (first | apply And.intro | intro _)))
    all_goals (repeat' (first | ((first | refine call_q hq (by cbv) ?_ | refine call_pure hq (by cbv) ?_); cbv; ((try simp only [IfP_iff, and_true, true_and, decide_eq_true_eq, decide_eq_false_iff_not]); (try simp only [natc, getI_gi, at2_0, at2_1]); (try dsimp only [Ty.den]); (try simp only [natc] at *); (repeat' (first | apply And.intro | intro _))))))
    all_goals (try (exact absurd (by assumption : (!false) = false) (by decide)))
    all_goals (try (simp only [IfP_iff, EqU_iff, Obl_iff, and_true, true_and, inI_iff, decide_eq_true_eq, decide_eq_false_iff_not]; (try simp only [natc, getI_gi, at2_0, at2_1]); (try dsimp only [Ty.den]); try simp only [natc] at *))
    all_goals (first | exact ⟨rfl, rfl⟩ | rfl | trace_state)
  | true =>
    rw [hb] at hq
    rw [hb, if_pos rfl] at h2
    rw [h2]
    have h8 := (perm_ok hb).1
    refine fnE [6] [0] [2, 3] Try.func27 rfl (by decide) rfl (by decide) (by kernel_rfl) (by kernel_rfl) (by simp [Try.ntmps27]) ?_
    cbv
    ((try simp only [IfP_iff, and_true, true_and, decide_eq_true_eq, decide_eq_false_iff_not]); (try simp only [natc, getI_gi, at2_0, at2_1]); (try dsimp only [Ty.den]); (try simp only [natc] at *); (repeat' (first | apply And.intro | intro _)))
    all_goals (repeat' (first | ((first | refine call_q hq (by cbv) ?_ | refine call_pure hq (by cbv) ?_); cbv; ((try simp only [IfP_iff, and_true, true_and, decide_eq_true_eq, decide_eq_false_iff_not]); (try simp only [natc, getI_gi, at2_0, at2_1]); (try dsimp only [Ty.den]); (try simp only [natc] at *); (repeat' (first | apply And.intro | intro _))))))
    all_goals (try (exact absurd (by assumption : (!true) = true) (by decide)))
    refine loopXE [6] (by kernel_rfl) (fun k : Int => 0 ≤ k ∧ k ≤ p.length) (fun k => [(5, .int fun _ => k), (4, .ref 0), (7, .junk), (0, .sl .int fun _ => srtP p k)]) (fun k => [(0, some (.row 66 (.pr .int .int) fun _ => srtL p k))]) (fun k => (p.length - k).toNat) (· + 1) 0 (by omega) ?_ ?_
    · cbv
      (simp only [IfP_iff, EqU_iff, Obl_iff, and_true, true_and, inI_iff, decide_eq_true_eq, decide_eq_false_iff_not]; (try simp only [natc, getI_gi, at2_0, at2_1]); (try dsimp only [Ty.den]); try simp only [natc] at *)
      exact ⟨rfl, rfl⟩
    · intro k hk
      have i0 := fun h => srt_ok hb hk.1 h
      have i1 := (srt_next (p := p) hk.1).1
      have i2 := (srt_next (p := p) hk.1).2
      have i3 : ¬ k < (p.length : Int) → srtL p k = srtL p p.length := fun h => by rw [show k = p.length by omega]
      have i5 := (srt_len hb hk.1 hk.2).1
      have g6 : k < (p.length : Int) → Spec2 Try.prog 55 [.sl .int fun _ => srtP p k, .int fun _ => k] [] [.int fun _ => atI (srtP p k) k] [] := fun h => by
        have g := i0 h
        have g6 := perm_pos g.1 hk.1 (by omega)
        exact sp_at (srtP p k) k (by omega) (by omega) (by omega) g6.2.2
      have g7 : k < (p.length : Int) → Spec2 Try.prog 56 [.sl .int fun _ => srtP p k, .int fun _ => k, .int fun _ => atI (srtP p k) k] [] [.ref 0] [some (.row 3 .int fun _ => swp (srtP p k) k (atI (srtP p k) k))] := fun h => by
        have g := i0 h
        exact sp_swap (srtP p k) k (atI (srtP p k) k) (by omega) hk.1 (by omega) (by omega) (by omega)
      have i6 : k < (p.length : Int) → (!decide (atI (srtP p k) k = k)) = true → swp (srtP p k) k (atI (srtP p k) k) = srtP p (k + 1) ∧ srtL p k ++ [(k, atI (srtP p k) k)] = srtL p (k + 1) := fun hlt h => i1 (by
        have : atI (srtP p k) k ≠ k := by simpa using h
        have := (i0 hlt).2.2.2.1
        omega)
      have i7 : k < (p.length : Int) → (!decide (atI (srtP p k) k = k)) = false → srtP p k = srtP p (k + 1) ∧ srtL p k = srtL p (k + 1) := fun hlt h => i2 (by
        have : atI (srtP p k) k = k := by simpa using h
        omega)
      have i8 : k < (p.length : Int) → (srtL p k).length ≤ 1048576 := fun hlt => by have := (i0 hlt).2.2.1; omega
      clear i0 i1 i2
      rw [show p.length = (srtP p k).length from i5.symm] at g6 g7 i6 i7 i8 i3
      cbv
      ((try simp only [IfP_iff, and_true, true_and, decide_eq_true_eq, decide_eq_false_iff_not]); (try simp only [natc, getI_gi, at2_0, at2_1]); (try dsimp only [Ty.den]); (try simp only [natc] at *); (repeat' (first | apply And.intro | intro _)))
      all_goals (repeat' (first | ((first | refine call_q (g6 (by assumption)) (by cbv) ?_ | refine call_pure (g6 (by assumption)) (by cbv) ?_); cbv; ((try simp only [IfP_iff, and_true, true_and, decide_eq_true_eq, decide_eq_false_iff_not]); (try simp only [natc, getI_gi, at2_0, at2_1]); (try dsimp only [Ty.den]); (try simp only [natc] at *); (repeat' (first | apply And.intro | intro _)))) | ((first | refine call_q (g7 (by assumption)) (by cbv) ?_ | refine call_pure (g7 (by assumption)) (by cbv) ?_); cbv; ((try simp only [IfP_iff, and_true, true_and, decide_eq_true_eq, decide_eq_false_iff_not]); (try simp only [natc, getI_gi, at2_0, at2_1]); (try dsimp only [Ty.den]); (try simp only [natc] at *); (repeat' (first | apply And.intro | intro _))))))
      all_goals (try clear g6 g7)
      all_goals (try have i8 := i8 (by assumption))
      all_goals (try (show Obl _; (simp only [IfP_iff, EqU_iff, Obl_iff, and_true, true_and, inI_iff, decide_eq_true_eq, decide_eq_false_iff_not]; (try simp only [natc, getI_gi, at2_0, at2_1]); (try dsimp only [Ty.den]); try simp only [natc] at *); ((repeat' (first | apply And.intro | intro _)) <;> first | omega | (simp only [List.length_cons, List.length_nil]; omega))))
      · refine DrawL.seqZ [(0, [2])] ?_
        cbv
        ((try simp only [IfP_iff, and_true, true_and, decide_eq_true_eq, decide_eq_false_iff_not]); (try simp only [natc, getI_gi, at2_0, at2_1]); (try dsimp only [Ty.den]); (try simp only [natc] at *); (repeat' (first | apply And.intro | intro _)))
        all_goals (try (show Obl _; (simp only [IfP_iff, EqU_iff, Obl_iff, and_true, true_and, inI_iff, decide_eq_true_eq, decide_eq_false_iff_not]; (try simp only [natc, getI_gi, at2_0, at2_1]); (try dsimp only [Ty.den]); try simp only [natc] at *); ((repeat' (first | apply And.intro | intro _)) <;> first | omega | (rw [← i5]; omega))))
        refine RenL.mk ⟨[0], ?_⟩
        cbv
        (simp only [IfP_iff, EqU_iff, Obl_iff, and_true, true_and, inI_iff, decide_eq_true_eq, decide_eq_false_iff_not]; (try simp only [natc, getI_gi, at2_0, at2_1]); (try dsimp only [Ty.den]); try simp only [natc] at *)
        exact i6 (by assumption) (by assumption)
      · refine DrawL.seqZ [] ?_
        cbv
        ((try simp only [IfP_iff, and_true, true_and, decide_eq_true_eq, decide_eq_false_iff_not]); (try simp only [natc, getI_gi, at2_0, at2_1]); (try dsimp only [Ty.den]); (try simp only [natc] at *); (repeat' (first | apply And.intro | intro _)))
        all_goals (try (show Obl _; (simp only [IfP_iff, EqU_iff, Obl_iff, and_true, true_and, inI_iff, decide_eq_true_eq, decide_eq_false_iff_not]; (try simp only [natc, getI_gi, at2_0, at2_1]); (try dsimp only [Ty.den]); try simp only [natc] at *); ((repeat' (first | apply And.intro | intro _)) <;> first | omega | (rw [← i5]; omega))))
        refine RenL.mk ⟨[0], ?_⟩
        cbv
        (simp only [IfP_iff, EqU_iff, Obl_iff, and_true, true_and, inI_iff, decide_eq_true_eq, decide_eq_false_iff_not]; (try simp only [natc, getI_gi, at2_0, at2_1]); (try dsimp only [Ty.den]); try simp only [natc] at *)
        exact i7 (by assumption) (by assumption)
      · (simp only [IfP_iff, EqU_iff, Obl_iff, and_true, true_and, inI_iff, decide_eq_true_eq, decide_eq_false_iff_not]; (try simp only [natc, getI_gi, at2_0, at2_1]); (try dsimp only [Ty.den]); try simp only [natc] at *)
      · (simp only [IfP_iff, EqU_iff, Obl_iff, and_true, true_and, inI_iff, decide_eq_true_eq, decide_eq_false_iff_not]; (try simp only [natc, getI_gi, at2_0, at2_1]); (try dsimp only [Ty.den]); try simp only [natc] at *)
        exact (i3 (by assumption)).trans (by rw [i5])
end Go.Proofs.Ytoejmijcikehdaa.M

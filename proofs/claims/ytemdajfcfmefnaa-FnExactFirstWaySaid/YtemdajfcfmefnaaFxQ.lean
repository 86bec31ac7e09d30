/- The first one of the shortest ways, on both sides. -/
import Derived.Test.YtemdajfcfmefnaaFwQ
import Derived.Test.YtemdajfcfmefnaaQg
namespace Go.Proofs.Ytemdajfcfmefnaa.M
open Go.RowKit Abs
set_option linter.unusedSimpArgs false
set_option linter.unusedVariables false
set_option maxRecDepth 100000
set_option maxHeartbeats 4000000
theorem im_first_bad (L : List (List Int)) (l : List (Int × Int)) (i j : Int) (hL : L.length ≤ 1048576) (hl : l.length ≤ 1048576) (hm : ∀ s ∈ L, s.length ≤ 1048576) (hb : okT L l i j = false) : Spec2 Try.prog 31 [.agg (.pr (.sl (.sl .int)) (.sl (.pr .int .int))) fun _ => (L, l), .int fun _ => i, .int fun _ => j] [] [.ref 0, .bool fun _ => false] [some (.row 3 .int fun _ => [])] := by
  simp only [okT] at hb
  rw [← inAll_two rfl] at hb
  refine fnS [2] [6, 7] Try.func31 rfl (by decide) rfl (by decide) (by kernel_rfl) rfl (by simp [Try.ntmps31]) ?_
  cbv
  repeat' (first | ((first | refine call_q (im_hasPlaces L l [i, j] (by simp) hL hl hm) (by cbv) ?_ | refine call_pure (im_hasPlaces L l [i, j] (by simp) hL hl hm) (by cbv) ?_); cbv; ((try simp only [IfP_iff, and_true, true_and, decide_eq_true_eq, decide_eq_false_iff_not]); (try simp only [natc, getI_gi, at2_0, at2_1]); (try dsimp only [Ty.den]); (try simp only [natc] at *); (repeat' (first | apply And.intro | intro _)))))
  all_goals (try (simp only [IfP_iff, EqU_iff, Obl_iff, and_true, true_and, inI_iff, decide_eq_true_eq, decide_eq_false_iff_not]; (try simp only [natc, getI_gi, at2_0, at2_1]); (try dsimp only [Ty.den]); try simp only [natc] at *))
  all_goals (first | omega | (exfalso; grind) | skip)
theorem im_first_ok (L : List (List Int)) (l : List (Int × Int)) (i j : Int) (hL : L.length ≤ 1048576) (hl : l.length ≤ 1048576) (hm : ∀ s ∈ L, s.length ≤ 1048576) (hb : okT L l i j = true) : Spec2 Try.prog 31 [.agg (.pr (.sl (.sl .int)) (.sl (.pr .int .int))) fun _ => (L, l), .int fun _ => i, .int fun _ => j] [] [.ref 0, .bool fun _ => decide (0 ≤ gi (distR L l j) i)] [some (.row 3 .int fun _ => wayR L l i j)] := by
  have hb' := hb
  simp only [okT, Bool.and_eq_true, decide_eq_true_eq] at hb'
  obtain ⟨hs, ⟨hi0, hi1⟩, hj0, hj1⟩ := hb'
  simp only [okT] at hb
  rw [← inAll_two rfl] at hb
  have hp := (space_parts hs).2.2.2
  obtain ⟨n1, n2, n3⟩ := near_ok hp
  obtain ⟨hd1, hd2⟩ := dist_ok hp hj0 hj1
  have hD : (distR L l j).length ≤ 1048576 := by omega
  have hr : Spec2 Try.prog 64 [.sl (.sl .int) fun _ => nearR l L.length, .int fun _ => j, .fnr 65 fun _ => ofCaps []] [] [.ref 0, .ref 1] [some (.row 3 .int fun _ => queR L l j), some (.row 3 .int fun _ => distR L l j)] := im_reach (nearR l L.length) (fun _ => true) 65 (fun _ => ofCaps []) j hj0 (by omega) (by omega) n2 (fun r hr => Nat.le_trans (n3 r hr) hl) (fun v _ _ => ⟨[], rfl, fun _ => rfl, im_any v⟩)
  have hw : wayR L l i j = _ := rfl
  conv at hw => rhs; unfold wayR
  refine fnS [6] [6, 7] Try.func31 rfl (by decide) rfl (by decide) (by kernel_rfl) rfl (by simp [Try.ntmps31]) ?_
  cbv
  repeat' (first | ((first | refine call_q (im_hasPlaces L l [i, j] (by simp) hL hl hm) (by cbv) ?_ | refine call_pure (im_hasPlaces L l [i, j] (by simp) hL hl hm) (by cbv) ?_); cbv; ((try simp only [IfP_iff, and_true, true_and, decide_eq_true_eq, decide_eq_false_iff_not]); (try simp only [natc, getI_gi, at2_0, at2_1]); (try dsimp only [Ty.den]); (try simp only [natc] at *); (repeat' (first | apply And.intro | intro _)))) | ((first | refine call_q (im_stepLists L l hL hl hp) (by cbv) ?_ | refine call_pure (im_stepLists L l hL hl hp) (by cbv) ?_); cbv; ((try simp only [IfP_iff, and_true, true_and, decide_eq_true_eq, decide_eq_false_iff_not]); (try simp only [natc, getI_gi, at2_0, at2_1]); (try dsimp only [Ty.den]); (try simp only [natc] at *); (repeat' (first | apply And.intro | intro _)))) | ((first | refine call_q hr (by cbv) ?_ | refine call_pure hr (by cbv) ?_); cbv; ((try simp only [IfP_iff, and_true, true_and, decide_eq_true_eq, decide_eq_false_iff_not]); (try simp only [natc, getI_gi, at2_0, at2_1]); (try dsimp only [Ty.den]); (try simp only [natc] at *); (repeat' (first | apply And.intro | intro _)))))
  rotate_right 1
  · have hneg : ¬ gi (distR L l j) i < 0 := by assumption
    have hz := dist_zero (i := j) hp hj0 hj1
    refine loopR (by kernel_rfl) [0, 1, 2, 3, 4, 5, 6, 9] (fun k : Int => 0 ≤ k ∧ k ≤ gi (distR L l j) i) (fun k => [(12, .ptr 7 0), (11, .ref 6), (36, .junk)]) (fun k => [(6, some (.row 3 .int fun _ => (wayN (nearR l L.length) (distR L l j) i k.toNat).1)), (7, some (.box 3 [.int fun _ => (wayN (nearR l L.length) (distR L l j) i k.toNat).2]))]) (fun k => (gi (distR L l j) i - k).toNat) (· + 1) 0 (by omega) ?_ ?_
    · cbv
      (simp only [IfP_iff, EqU_iff, Obl_iff, and_true, true_and, inI_iff, decide_eq_true_eq, decide_eq_false_iff_not]; (try simp only [natc, getI_gi, at2_0, at2_1]); (try dsimp only [Ty.den]); try simp only [natc] at *)
      exact ⟨rfl, rfl⟩
    · intro k hk
      have w := way_ok hp hi0 hi1 hj0 hj1 k.toNat (by omega)
      have wn := way_next (R := nearR l L.length) (D := distR L l j) (i := i) hk.1
      have wl := way_len (nearR l L.length) (distR L l j) i k.toNat
      have hwi : ¬ k < gi (distR L l j) i → (wayN (nearR l L.length) (distR L l j) i k.toNat).1 = wayR L l i j := fun a => by
        rw [hw, if_neg hneg, show k.toNat = (gi (distR L l j) i).toNat by omega]
      generalize hpp : (wayN (nearR l L.length) (distR L l j) i k.toNat).2 = p at w wn
      have w1 := w.1.1
      have w2 := w.1.2
      have w3 := w.2
      have w4 := hd2 i
      have q0 : p = j → ¬ k < gi (distR L l j) i := fun e => by rw [e, hz.1] at w3; omega
      have q1 : ¬ p = j → k < gi (distR L l j) i := fun e => by
        rcases Int.lt_or_le k (gi (distR L l j) i) with a | a
        · exact a
        · exact (e (hz.2 p w1 w2 (by omega))).elim
      have b0 : (!decide (p = j)) = false → ¬ k < gi (distR L l j) i := fun a => q0 (by simpa using a)
      have b1 : (!decide (p = j)) = true → k < gi (distR L l j) i := fun a => q1 (by simpa using a)
      have nx := fun a : k < gi (distR L l j) i => fst_ok hp hj0 hj1 w1 w2 (by omega)
      have hrow : (getR .int (nearR l L.length) p).length ≤ 1048576 := by
        unfold getR
        rw [List.getD_eq_getElem?_getD]
        cases e : (nearR l L.length)[p.toNat]? with
        | none => simp
        | some r => exact Nat.le_trans (n3 r (List.mem_of_getElem? e)) hl
      have hmem : ∀ x : Int, x ∈ getR .int (nearR l L.length) p → 0 ≤ x ∧ x < ((nearR l L.length).length : Int) := near_row n2 p
      have hf : ∀ x : Int, x ∈ getR .int (nearR l L.length) p → Fn1 Try.prog tab 68 (fun _ => ofCaps [.ibox [.sl .int fun _ => distR L l j] 0, .ibox [.int fun _ => p] 0]) [.int fun _ => x] [.bool fun _ => qd (distR L l j) p x] := fun x hx => ⟨_, rfl, fun _ => rfl, im_fw1 x p (distR L l j) (hmem x hx).1 (by have := (hmem x hx).2; omega) w1 (by omega) hD⟩
      unfold nxt fstI at nx wn
      have wn1 := wn.1
      have wn2 := wn.2
      cbv
      rw [hpp] at *
      ((try simp only [IfP_iff, and_true, true_and, decide_eq_true_eq, decide_eq_false_iff_not]); (try simp only [natc, getI_gi, at2_0, at2_1]); (try dsimp only [Ty.den]); (try simp only [natc] at *); (repeat' (first | apply And.intro | intro _)))
      all_goals (repeat' (first | ((first | refine call_q (go_indexF 68 (fun _ => ofCaps [.ibox [.sl .int fun _ => distR L l j] 0, .ibox [.int fun _ => p] 0]) (qd (distR L l j) p) (getR .int (nearR l L.length) p) hrow hf) (by cbv) ?_ | refine call_pure (go_indexF 68 (fun _ => ofCaps [.ibox [.sl .int fun _ => distR L l j] 0, .ibox [.int fun _ => p] 0]) (qd (distR L l j) p) (getR .int (nearR l L.length) p) hrow hf) (by cbv) ?_); cbv; ((try simp only [IfP_iff, and_true, true_and, decide_eq_true_eq, decide_eq_false_iff_not]); (try simp only [natc, getI_gi, at2_0, at2_1]); (try dsimp only [Ty.den]); (try simp only [natc] at *); (repeat' (first | apply And.intro | intro _))))))
      all_goals (try (simp only [IfP_iff, EqU_iff, Obl_iff, and_true, true_and, inI_iff, decide_eq_true_eq, decide_eq_false_iff_not]; (try simp only [natc, getI_gi, at2_0, at2_1]); (try dsimp only [Ty.den]); try simp only [natc] at *))
      all_goals ((repeat' (first | apply And.intro | intro _)) <;> first | omega | exact wn1.symm | (have hq := b1 (by assumption); first | omega | exact (nx hq).1.1 | exact (nx hq).1.2 | (simp only [List.length_cons, List.length_nil]; omega)) | exact hwi (b0 (by assumption)) | (symm; rw [decide_eq_true_eq]; omega) | trace_state)
  all_goals (try (simp only [IfP_iff, EqU_iff, Obl_iff, and_true, true_and, inI_iff, decide_eq_true_eq, decide_eq_false_iff_not]; (try simp only [natc, getI_gi, at2_0, at2_1]); (try dsimp only [Ty.den]); try simp only [natc] at *))
  all_goals ((repeat' (first | apply And.intro | intro _)) <;> first | omega | (exfalso; clear hm n3 hr n2; grind) | (rw [hw, if_pos (by assumption)]; done) | (symm; rw [decide_eq_false_iff_not]; omega) | trace_state)
theorem im_first (L : List (List Int)) (l : List (Int × Int)) (i j : Int) (hL : L.length ≤ 1048576) (hl : l.length ≤ 1048576) (hm : ∀ s ∈ L, s.length ≤ 1048576) : Spec2 Try.prog 31 [.agg (.pr (.sl (.sl .int)) (.sl (.pr .int .int))) fun _ => (L, l), .int fun _ => i, .int fun _ => j] [] [.ref 0, .bool fun _ => wayB L l i j] [some (.row 3 .int fun _ => wayF L l i j)] := by
  unfold wayB wayF
  cases h : okT L l i j with
  | false =>
    simp only [Bool.false_eq_true, if_false, Bool.false_and]
    exact im_first_bad L l i j hL hl hm h
  | true =>
    simp only [if_true, Bool.true_and]
    exact im_first_ok L l i j hL hl hm h
theorem sp_walk (L : List (List Int)) (l : List (Int × Int)) (i j : Int) (hL : L.length ≤ 1048576) (hl : l.length ≤ 1048576) (hb : okT L l i j = true) : Spec2 Try.prog 66 [.agg (.pr (.sl (.sl .int)) (.sl (.pr .int .int))) fun _ => (L, l), .int fun _ => i, .int fun _ => j] [] [.ref 0] [some (.row 3 .int fun _ => wayR L l i j)] := by
  simp only [okT, Bool.and_eq_true, decide_eq_true_eq] at hb
  obtain ⟨hs, ⟨hi0, hi1⟩, hj0, hj1⟩ := hb
  have hp := (space_parts hs).2.2.2
  obtain ⟨n1, n2, n3⟩ := near_ok hp
  obtain ⟨hd1, hd2⟩ := dist_ok hp hj0 hj1
  have hD : (distR L l j).length ≤ 1048576 := by omega
  have hr : Spec2 Try.prog 70 [.sl (.sl .int) fun _ => nearR l L.length, .int fun _ => j] [] [.ref 0] [some (.row 3 .int fun _ => distR L l j)] := sp_spread (nearR l L.length) j hj0 (by omega) (by omega) n2 (fun r hr => Nat.le_trans (n3 r hr) hl)
  have hw : wayR L l i j = _ := rfl
  conv at hw => rhs; unfold wayR
  refine fnS [3] [6] Try.func66 rfl (by decide) rfl (by decide) (by kernel_rfl) rfl (by simp [Try.ntmps66]) ?_
  cbv
  repeat' (first | ((first | refine call_q (sp_lists L l hL hl hp) (by cbv) ?_ | refine call_pure (sp_lists L l hL hl hp) (by cbv) ?_); cbv; ((try simp only [IfP_iff, and_true, true_and, decide_eq_true_eq, decide_eq_false_iff_not]); (try simp only [natc, getI_gi, at2_0, at2_1]); (try dsimp only [Ty.den]); (try simp only [natc] at *); (repeat' (first | apply And.intro | intro _)))) | ((first | refine call_q hr (by cbv) ?_ | refine call_pure hr (by cbv) ?_); cbv; ((try simp only [IfP_iff, and_true, true_and, decide_eq_true_eq, decide_eq_false_iff_not]); (try simp only [natc, getI_gi, at2_0, at2_1]); (try dsimp only [Ty.den]); (try simp only [natc] at *); (repeat' (first | apply And.intro | intro _)))))
  rotate_right 1
  · have hneg : ¬ gi (distR L l j) i < 0 := by assumption
    have hz := dist_zero (i := j) hp hj0 hj1
    refine loopP (by kernel_rfl) (fun k : Int => 0 ≤ k ∧ k ≤ gi (distR L l j) i) (fun k => [(1, .int fun _ => (wayN (nearR l L.length) (distR L l j) i k.toNat).2), (9, .ref 3), (23, .junk)]) (fun k => [(3, some (.row 3 .int fun _ => (wayN (nearR l L.length) (distR L l j) i k.toNat).1))]) (fun k => (gi (distR L l j) i - k).toNat) (· + 1) 0 (by omega) ?_ ?_
    · cbv
      (simp only [IfP_iff, EqU_iff, Obl_iff, and_true, true_and, inI_iff, decide_eq_true_eq, decide_eq_false_iff_not]; (try simp only [natc, getI_gi, at2_0, at2_1]); (try dsimp only [Ty.den]); try simp only [natc] at *)
      exact ⟨rfl, rfl⟩
    · intro k hk
      have w := way_ok hp hi0 hi1 hj0 hj1 k.toNat (by omega)
      have wn := way_next (R := nearR l L.length) (D := distR L l j) (i := i) hk.1
      have wl := way_len (nearR l L.length) (distR L l j) i k.toNat
      have hwi : ¬ k < gi (distR L l j) i → (wayN (nearR l L.length) (distR L l j) i k.toNat).1 = wayR L l i j := fun a => by
        rw [hw, if_neg hneg, show k.toNat = (gi (distR L l j) i).toNat by omega]
      generalize hpp : (wayN (nearR l L.length) (distR L l j) i k.toNat).2 = p at w wn
      have w1 := w.1.1
      have w2 := w.1.2
      have w3 := w.2
      have w4 := hd2 i
      have w5 := hd2 p
      have q0 : p = j → ¬ k < gi (distR L l j) i := fun e => by rw [e, hz.1] at w3; omega
      have q1 : ¬ p = j → k < gi (distR L l j) i := fun e => by
        rcases Int.lt_or_le k (gi (distR L l j) i) with a | a
        · exact a
        · exact (e (hz.2 p w1 w2 (by omega))).elim
      have b0 : (!decide (p = j)) = false → ¬ k < gi (distR L l j) i := fun a => q0 (by simpa using a)
      have b1 : (!decide (p = j)) = true → k < gi (distR L l j) i := fun a => q1 (by simpa using a)
      have nx := fun a : k < gi (distR L l j) i => fst_ok hp hj0 hj1 w1 w2 (by omega)
      have hrow : (getR .int (nearR l L.length) p).length ≤ 1048576 := by
        unfold getR
        rw [List.getD_eq_getElem?_getD]
        cases e : (nearR l L.length)[p.toNat]? with
        | none => simp
        | some r => exact Nat.le_trans (n3 r (List.mem_of_getElem? e)) hl
      have hmem : ∀ x : Int, x ∈ getR .int (nearR l L.length) p → 0 ≤ x ∧ x < ((nearR l L.length).length : Int) := near_row n2 p
      have wn1 := wn.1
      have wn2 := wn.2
      cbv
      rw [hpp] at *
      ((try simp only [IfP_iff, and_true, true_and, decide_eq_true_eq, decide_eq_false_iff_not]); (try simp only [natc, getI_gi, at2_0, at2_1]); (try dsimp only [Ty.den]); (try simp only [natc] at *); (repeat' (first | apply And.intro | intro _)))
      · have hkd : k < gi (distR L l j) i := b1 (by assumption)
        have f1 := (nx hkd).1
        have f2 := (nx hkd).2.1
        have f3 := (nx hkd).2.2.2
        have f4 := (nx hkd).2.2.1
        refine loopP (by kernel_rfl) (fun m : Int => 0 ≤ m ∧ m ≤ fstI (nearR l L.length) (distR L l j) p) (fun m => [(10, .int fun _ => m)]) (fun _ => []) (fun m => (fstI (nearR l L.length) (distR L l j) p - m).toNat) (· + 1) 0 (by omega) ?_ ?_
        · cbv
          (simp only [IfP_iff, EqU_iff, Obl_iff, and_true, true_and, inI_iff, decide_eq_true_eq, decide_eq_false_iff_not]; (try simp only [natc, getI_gi, at2_0, at2_1]); (try dsimp only [Ty.den]); try simp only [natc] at *)
        · intro m hm
          have m1 : m < ((getR .int (nearR l L.length) p).length : Int) := by omega
          have m2 := hmem _ (gi_mem hm.1 m1)
          have c1 : (!decide (gi (distR L l j) (gi (getR .int (nearR l L.length) p) m) = gi (distR L l j) p - 1)) = true → m < fstI (nearR l L.length) (distR L l j) p := fun a => by
            rcases Int.lt_or_le m (fstI (nearR l L.length) (distR L l j) p) with b | b
            · exact b
            · have e : m = fstI (nearR l L.length) (distR L l j) p := by omega
              rw [e] at a
              unfold nxt at f2
              rw [f2] at a
              simp at a
          have c2 : (!decide (gi (distR L l j) (gi (getR .int (nearR l L.length) p) m) = gi (distR L l j) p - 1)) = false → m = fstI (nearR l L.length) (distR L l j) p := fun a => by
            rcases Int.lt_or_le m (fstI (nearR l L.length) (distR L l j) p) with b | b
            · have := f3 m hm.1 b
              simp only [Bool.not_eq_false', decide_eq_true_eq] at a
              exact (this a).elim
            · omega
          clear nx hmem f3 b0 b1 q0 q1
          cbv
          ((try simp only [IfP_iff, and_true, true_and, decide_eq_true_eq, decide_eq_false_iff_not]); (try simp only [natc, getI_gi, at2_0, at2_1]); (try dsimp only [Ty.den]); (try simp only [natc] at *); (repeat' (first | apply And.intro | intro _)))
          all_goals (try (simp only [IfP_iff, EqU_iff, Obl_iff, and_true, true_and, inI_iff, decide_eq_true_eq, decide_eq_false_iff_not]; (try simp only [natc, getI_gi, at2_0, at2_1]); (try dsimp only [Ty.den]); try simp only [natc] at *))
          all_goals ((repeat' (first | apply And.intro | intro _)) <;> first | omega | (rw [wn2, c2 (by assumption)]; rfl) | (rw [wn1, c2 (by assumption)]; rfl) | (have := c1 (by assumption); omega) | (simp only [List.length_append, List.length_cons, List.length_nil]; omega) | trace_state)
      all_goals (try (simp only [IfP_iff, EqU_iff, Obl_iff, and_true, true_and, inI_iff, decide_eq_true_eq, decide_eq_false_iff_not]; (try simp only [natc, getI_gi, at2_0, at2_1]); (try dsimp only [Ty.den]); try simp only [natc] at *))
      all_goals ((repeat' (first | apply And.intro | intro _)) <;> first | omega | exact hwi (b0 (by assumption)) | trace_state)
  all_goals (try (simp only [IfP_iff, EqU_iff, Obl_iff, and_true, true_and, inI_iff, decide_eq_true_eq, decide_eq_false_iff_not]; (try simp only [natc, getI_gi, at2_0, at2_1]); (try dsimp only [Ty.den]); try simp only [natc] at *))
  all_goals ((repeat' (first | apply And.intro | intro _)) <;> first | omega | (exfalso; clear n3 hr n2; grind) | (rw [hw, if_pos (by assumption)]; done) | (symm; rw [decide_eq_false_iff_not]; omega) | trace_state)
theorem okT_eq (L : List (List Int)) (l : List (Int × Int)) (i j : Int) : okT L l i j = (okS L l i && okS L l j) := by
  unfold okT okS
  cases spaceOk L l <;> simp
theorem sp_first (L : List (List Int)) (l : List (Int × Int)) (i j : Int) (hL : L.length ≤ 1048576) (hl : l.length ≤ 1048576) (hm : ∀ s ∈ L, s.length ≤ 1048576) : Spec2 Try.prog 30 [.agg (.pr (.sl (.sl .int)) (.sl (.pr .int .int))) fun _ => (L, l), .int fun _ => i, .int fun _ => j] [] [.ref 0, .bool fun _ => wayB L l i j] [some (.row 3 .int fun _ => wayF L l i j)] := by
  unfold wayB wayF
  have he := okT_eq L l i j
  cases h : okT L l i j with
  | false =>
    simp only [Bool.false_eq_true, if_false, Bool.false_and]
    rw [h] at he
    refine fnS [1] [6, 7] Try.func30 rfl (by decide) rfl (by decide) (by kernel_rfl) rfl (by simp [Try.ntmps30]) ?_
    cbv
    ((try simp only [IfP_iff, and_true, true_and, decide_eq_true_eq, decide_eq_false_iff_not]); (try simp only [natc, getI_gi, at2_0, at2_1]); (try dsimp only [Ty.den]); (try simp only [natc] at *); (repeat' (first | apply And.intro | intro _)))
    all_goals (repeat' (first | ((first | refine call_q (sp_place L l i hL hl hm) (by cbv) ?_ | refine call_pure (sp_place L l i hL hl hm) (by cbv) ?_); cbv; ((try simp only [IfP_iff, and_true, true_and, decide_eq_true_eq, decide_eq_false_iff_not]); (try simp only [natc, getI_gi, at2_0, at2_1]); (try dsimp only [Ty.den]); (try simp only [natc] at *); (repeat' (first | apply And.intro | intro _)))) | ((first | refine call_q (sp_place L l j hL hl hm) (by cbv) ?_ | refine call_pure (sp_place L l j hL hl hm) (by cbv) ?_); cbv; ((try simp only [IfP_iff, and_true, true_and, decide_eq_true_eq, decide_eq_false_iff_not]); (try simp only [natc, getI_gi, at2_0, at2_1]); (try dsimp only [Ty.den]); (try simp only [natc] at *); (repeat' (first | apply And.intro | intro _))))))
    all_goals (try (simp only [IfP_iff, EqU_iff, Obl_iff, and_true, true_and, inI_iff, decide_eq_true_eq, decide_eq_false_iff_not]; (try simp only [natc, getI_gi, at2_0, at2_1]); (try dsimp only [Ty.den]); try simp only [natc] at *))
    all_goals ((repeat' (first | apply And.intro | intro _)) <;> first | omega | (exfalso; clear hm; grind) | skip)
  | true =>
    simp only [if_true, Bool.true_and]
    have hw := sp_walk L l i j hL hl h
    have h5 : decide (0 < ((wayR L l i j).length : Int)) = decide (0 ≤ gi (distR L l j) i) := by
      rw [decide_eq_decide]
      unfold wayR
      split
      · rename_i a
        simp
        omega
      · rw [way_len]
        constructor <;> intro _ <;> omega
    have h6 : (wayR L l i j).length ≤ 1048576 := by
      simp only [okT, Bool.and_eq_true, decide_eq_true_eq] at h
      have hd := (dist_ok (space_parts h.1).2.2.2 h.2.2.1 h.2.2.2).2 i
      unfold wayR
      split
      · simp
      · rw [way_len]
        have := (space_parts h.1).1
        omega
    rw [h] at he
    refine fnS [1] [6, 7] Try.func30 rfl (by decide) rfl (by decide) (by kernel_rfl) rfl (by simp [Try.ntmps30]) ?_
    cbv
    ((try simp only [IfP_iff, and_true, true_and, decide_eq_true_eq, decide_eq_false_iff_not]); (try simp only [natc, getI_gi, at2_0, at2_1]); (try dsimp only [Ty.den]); (try simp only [natc] at *); (repeat' (first | apply And.intro | intro _)))
    all_goals (repeat' (first | ((first | refine call_q (sp_place L l i hL hl hm) (by cbv) ?_ | refine call_pure (sp_place L l i hL hl hm) (by cbv) ?_); cbv; ((try simp only [IfP_iff, and_true, true_and, decide_eq_true_eq, decide_eq_false_iff_not]); (try simp only [natc, getI_gi, at2_0, at2_1]); (try dsimp only [Ty.den]); (try simp only [natc] at *); (repeat' (first | apply And.intro | intro _)))) | ((first | refine call_q (sp_place L l j hL hl hm) (by cbv) ?_ | refine call_pure (sp_place L l j hL hl hm) (by cbv) ?_); cbv; ((try simp only [IfP_iff, and_true, true_and, decide_eq_true_eq, decide_eq_false_iff_not]); (try simp only [natc, getI_gi, at2_0, at2_1]); (try dsimp only [Ty.den]); (try simp only [natc] at *); (repeat' (first | apply And.intro | intro _)))) | ((first | refine call_q hw (by cbv) ?_ | refine call_pure hw (by cbv) ?_); cbv; ((try simp only [IfP_iff, and_true, true_and, decide_eq_true_eq, decide_eq_false_iff_not]); (try simp only [natc, getI_gi, at2_0, at2_1]); (try dsimp only [Ty.den]); (try simp only [natc] at *); (repeat' (first | apply And.intro | intro _))))))
    all_goals (try (simp only [IfP_iff, EqU_iff, Obl_iff, and_true, true_and, inI_iff, decide_eq_true_eq, decide_eq_false_iff_not]; (try simp only [natc, getI_gi, at2_0, at2_1]); (try dsimp only [Ty.den]); try simp only [natc] at *))
    all_goals ((repeat' (first | apply And.intro | intro _)) <;> first | omega | exact h5 | (exfalso; clear hm; grind) | skip)
theorem way_bound {L : List (List Int)} {l : List (Int × Int)} {i j : Int} : (wayF L l i j).length ≤ 1048576 := by
  unfold wayF
  split
  · rename_i h
    simp only [okT, Bool.and_eq_true, decide_eq_true_eq] at h
    have hd := (dist_ok (space_parts h.1).2.2.2 h.2.2.1 h.2.2.2).2 i
    unfold wayR
    split
    · simp
    · rw [way_len]
      have := (space_parts h.1).1
      omega
  · simp
end Go.Proofs.Ytemdajfcfmefnaa.M

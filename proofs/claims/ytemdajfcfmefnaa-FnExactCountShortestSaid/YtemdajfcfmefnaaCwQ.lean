/- Numbers of shortest ways: the specification's walk. -/
import Derived.Test.YtemdajfcfmefnaaClQ
import Derived.Test.YtemdajfcfmefnaaQg
namespace Go.Proofs.Ytemdajfcfmefnaa.M
open Go.RowKit Abs
set_option linter.unusedSimpArgs false
set_option linter.unusedVariables false
set_option maxRecDepth 100000
set_option maxHeartbeats 4000000
def mnL (a b : Int) : Int := if a < b then a else b
theorem sp_least (a b : Int) : Spec2 Try.prog 71 [.int fun _ => a, .int fun _ => b] [] [.int fun _ => mnL a b] [] := by
  refine fnS [] [4] Try.func71 rfl (by decide) rfl (by decide) (by kernel_rfl) rfl (by simp [Try.ntmps71]) ?_
  cbv
  unfold mnL
  ((try simp only [IfP_iff, and_true, true_and, decide_eq_true_eq, decide_eq_false_iff_not]); (try simp only [natc, getI_gi, at2_0, at2_1]); (try dsimp only [Ty.den]); (try simp only [natc] at *); (repeat' (first | apply And.intro | intro _)))
  all_goals (try (simp only [IfP_iff, EqU_iff, Obl_iff, and_true, true_and, inI_iff, decide_eq_true_eq, decide_eq_false_iff_not]; (try simp only [natc, getI_gi, at2_0, at2_1]); (try dsimp only [Ty.den]); try simp only [natc] at *))
  all_goals ((repeat' (first | apply And.intro | intro _)) <;> first | omega | (simp only [List.length_append, List.length_cons, List.length_nil]; omega) | grind)
theorem min_mnL (x : Int) : min x 1000000 = mnL x 1000000 := by unfold mnL; split <;> omega
theorem okT_two (L : List (List Int)) (l : List (Int × Int)) (i j : Int) : okT L l i j = (okS L l i && okS L l j) := by
  unfold okT okS
  cases spaceOk L l <;> simp
theorem cntL_zero (L : List (List Int)) (l : List (Int × Int)) (i : Int) : cntL L l i (Int.toNat 0) = cstart L.length i := rfl
theorem mid_zero (L : List (List Int)) (l : List (Int × Int)) (i d : Int) (C : List Int) : midC L l i d C (Int.toNat 0) = C := rfl
theorem sp_count_ok (L : List (List Int)) (l : List (Int × Int)) (i j : Int) (hL : L.length ≤ 1048576) (hl : l.length ≤ 1048576) (hm : ∀ s ∈ L, s.length ≤ 1048576) (hb : okT L l i j = true) : Spec2 Try.prog 32 [.agg (.pr (.sl (.sl .int)) (.sl (.pr .int .int))) fun _ => (L, l), .int fun _ => i, .int fun _ => j] [] [.int fun _ => if gi (distR L l i) j < 0 then 0 else cntQ L l i j, .bool fun _ => !decide (gi (distR L l i) j < 0)] [] := by
  have hb' := hb
  simp only [okT, Bool.and_eq_true, decide_eq_true_eq] at hb'
  obtain ⟨hs, ⟨hi0, hi1⟩, hj0, hj1⟩ := hb'
  have he := okT_two L l i j
  rw [hb] at he
  have hp := (space_parts hs).2.2.2
  obtain ⟨n1, n2, n3⟩ := near_ok hp
  have hd := dist_ok hp hi0 hi1
  have hd1 := hd.1
  have hd2 := hd.2 j
  have hS := dst_space hp hi0 hi1
  have hr : Spec2 Try.prog 70 [.sl (.sl .int) fun _ => nearR l L.length, .int fun _ => i] [] [.ref 0] [some (.row 3 .int fun _ => distR L l i)] := sp_spread (nearR l L.length) i hi0 (by omega) (by omega) n2 (fun r hr => Nat.le_trans (n3 r hr) hl)
  have hrow : ∀ p : Int, (getR .int (nearR l L.length) p).length ≤ 1048576 := fun p => by
    unfold getR
    rw [List.getD_eq_getElem?_getD]
    cases e : (nearR l L.length)[p.toNat]? with
    | none => simp
    | some r => exact Nat.le_trans (n3 r (List.mem_of_getElem? e)) hl
  have hcs := cstart_eq (n := L.length) (m := ((nearR l L.length).length : Int)) i (by rw [n1]; simp)
  have hcz := cntL_zero L l i
  have hfin : ¬ gi (distR L l i) j < 0 → gi (cntL L l i (gi (distR L l i) j).toNat) j = cntQ L l i j := fun a => cnt_same hp hi0 hi1 hj0 hj1 (by omega)
  refine fnS [] [6, 7] Try.func32 rfl (by decide) rfl (by decide) (by kernel_rfl) rfl (by simp [Try.ntmps32]) ?_
  cbv
  ((try simp only [IfP_iff, and_true, true_and, decide_eq_true_eq, decide_eq_false_iff_not]); (try simp only [natc, getI_gi, at2_0, at2_1]); (try dsimp only [Ty.den]); (try simp only [natc] at *); (repeat' (first | apply And.intro | intro _)))
  all_goals (repeat' (first | ((first | refine call_q (sp_place L l i hL hl hm) (by cbv) ?_ | refine call_pure (sp_place L l i hL hl hm) (by cbv) ?_); cbv; ((try simp only [IfP_iff, and_true, true_and, decide_eq_true_eq, decide_eq_false_iff_not]); (try simp only [natc, getI_gi, at2_0, at2_1]); (try dsimp only [Ty.den]); (try simp only [natc] at *); (repeat' (first | apply And.intro | intro _)))) | ((first | refine call_q (sp_place L l j hL hl hm) (by cbv) ?_ | refine call_pure (sp_place L l j hL hl hm) (by cbv) ?_); cbv; ((try simp only [IfP_iff, and_true, true_and, decide_eq_true_eq, decide_eq_false_iff_not]); (try simp only [natc, getI_gi, at2_0, at2_1]); (try dsimp only [Ty.den]); (try simp only [natc] at *); (repeat' (first | apply And.intro | intro _)))) | ((first | refine call_q (sp_lists L l hL hl hp) (by cbv) ?_ | refine call_pure (sp_lists L l hL hl hp) (by cbv) ?_); cbv; ((try simp only [IfP_iff, and_true, true_and, decide_eq_true_eq, decide_eq_false_iff_not]); (try simp only [natc, getI_gi, at2_0, at2_1]); (try dsimp only [Ty.den]); (try simp only [natc] at *); (repeat' (first | apply And.intro | intro _)))) | ((first | refine call_q hr (by cbv) ?_ | refine call_pure hr (by cbv) ?_); cbv; ((try simp only [IfP_iff, and_true, true_and, decide_eq_true_eq, decide_eq_false_iff_not]); (try simp only [natc, getI_gi, at2_0, at2_1]); (try dsimp only [Ty.den]); (try simp only [natc] at *); (repeat' (first | apply And.intro | intro _))))))
  rotate_right 1
  · have hneg : ¬ gi (distR L l i) j < 0 := by assumption
    have hf2 := hfin hneg
    have hf3 : true = !decide (gi (distR L l i) j < 0) := by simp; omega
    refine loopP (by kernel_rfl) (fun k : Int => 0 ≤ k ∧ k ≤ gi (distR L l i) j) (fun k => [(11, .int fun _ => k)]) (fun k => [(3, some (.row 3 .int fun _ => cntL L l i k.toNat))]) (fun k => (gi (distR L l i) j - k).toNat) (· + 1) 0 (by omega) ?_ ?_
    · cbv
      (simp only [IfP_iff, EqU_iff, Obl_iff, and_true, true_and, inI_iff, decide_eq_true_eq, decide_eq_false_iff_not]; (try simp only [natc, getI_gi, at2_0, at2_1]); (try dsimp only [Ty.den]); try simp only [natc] at *)
      rw [hcz]
      exact hcs
    · intro k hk
      have c1 := (cntL_ok (L := L) (l := l) (i := i) k.toNat).1
      have c2 := cntL_next (L := L) (l := l) (i := i) hk.1
      have c3 : ¬ k < gi (distR L l i) j → gi (cntL L l i k.toNat) j = cntQ L l i j := fun a => by rw [show k = gi (distR L l i) j by omega]; exact hf2
      cbv
      ((try simp only [IfP_iff, and_true, true_and, decide_eq_true_eq, decide_eq_false_iff_not]); (try simp only [natc, getI_gi, at2_0, at2_1]); (try dsimp only [Ty.den]); (try simp only [natc] at *); (repeat' (first | apply And.intro | intro _)))
      rotate_left 1
      · refine loopP (by kernel_rfl) (fun a : Int => 0 ≤ a ∧ a ≤ L.length) (fun a => [(12, .int fun _ => a)]) (fun a => [(3, some (.row 3 .int fun _ => midC L l i k (cntL L l i k.toNat) a.toNat))]) (fun a => (L.length - a).toNat) (· + 1) 0 (by simp) ?_ ?_
        · cbv
          (simp only [IfP_iff, EqU_iff, Obl_iff, and_true, true_and, inI_iff, decide_eq_true_eq, decide_eq_false_iff_not]; (try simp only [natc, getI_gi, at2_0, at2_1]); (try dsimp only [Ty.den]); try simp only [natc] at *)
          rw [mid_zero]
        · intro a ha
          have e0 := mid_ok (l := l) (i := i) (d := k) a.toNat (cntL_ok (L := L) (l := l) (i := i) k.toNat)
          have e1 := (mid_next (L := L) (l := l) (i := i) (d := k) (C := cntL L l i k.toNat) ha.1).1
          have e2 := (mid_next (L := L) (l := l) (i := i) (d := k) (C := cntL L l i k.toNat) ha.1).2
          have e3 : ¬ a < (L.length : Int) → midC L l i k (cntL L l i k.toNat) a.toNat = cntL L l i (k + 1).toNat := fun h => by rw [c2, show a.toNat = L.length by omega]
          have e4 := hrow a
          have e5 := hd.2 a
          have e6 := fun b h => hS.step a b ha.1 h
          cbv
          ((try simp only [IfP_iff, and_true, true_and, decide_eq_true_eq, decide_eq_false_iff_not]); (try simp only [natc, getI_gi, at2_0, at2_1]); (try dsimp only [Ty.den]); (try simp only [natc] at *); (repeat' (first | apply And.intro | intro _)))
          · have han : a < (L.length : Int) := by omega
            obtain ⟨sC, s0, s1, s2, s3, s4⟩ := count_rounds (D := distR L l i) (r := getR .int (nearR l L.length) a) (u := a) e0
            refine loopP (by kernel_rfl) (fun m : Int => (0 ≤ m ∧ m ≤ (getR .int (nearR l L.length) a).length) ∧ (gi (distR L l i) a = k ∨ m = 0)) (fun m => [(13, .int fun _ => m)]) (fun m => [(3, some (.row 3 .int fun _ => sC m))]) (fun m => ((getR .int (nearR l L.length) a).length - m).toNat) (· + 1) 0 (by omega) ?_ ?_
            · cbv
              (simp only [IfP_iff, EqU_iff, Obl_iff, and_true, true_and, inI_iff, decide_eq_true_eq, decide_eq_false_iff_not]; (try simp only [natc, getI_gi, at2_0, at2_1]); (try dsimp only [Ty.den]); try simp only [natc] at *)
              rw [s0]
            · intro m hm2
              have m0 := hm2.1.1
              have t1 := (s1 m).1
              have t2 := (s1 m).2
              have t3 := s2 m m0
              rw [min_mnL] at t3
              have t4 := s3 m m0
              have t5 := s4 m
              have t6 := fun (h : m < ((getR .int (nearR l L.length) a).length : Int)) (g : 0 ≤ gi (distR L l i) a) => e6 (gi (getR .int (nearR l L.length) a) m) (by omega) g (gi_mem m0 h)
              have t7 := t2 a
              have t8 := t2 (gi (getR .int (nearR l L.length) a) m)
              have x1 : ¬ m < ((getR .int (nearR l L.length) a).length : Int) → gi (distR L l i) a = k → sC m = midC L l i k (cntL L l i k.toNat) (a + 1).toNat := fun h g => by rw [t5 h, e1 g]; rfl
              have x2 : ¬ gi (distR L l i) a = k → sC m = midC L l i k (cntL L l i k.toNat) (a + 1).toNat := fun g => by
                have : m = 0 := by rcases hm2.2 with h | h
                                   · exact (g h).elim
                                   · exact h
                rw [this, s0, e2 g]
              have x3 : ¬ m < ((getR .int (nearR l L.length) a).length : Int) → sC m = midC L l i k (cntL L l i k.toNat) (a + 1).toNat := fun h => by
                by_cases g : gi (distR L l i) a = k
                · exact x1 h g
                · exact x2 g
              clear s1 s2 s3 s4 s0 t2 t5 e6 e1 e2 e3 hr hS n2 n3
              cbv
              ((try simp only [IfP_iff, and_true, true_and, decide_eq_true_eq, decide_eq_false_iff_not]); (try simp only [natc, getI_gi, at2_0, at2_1]); (try dsimp only [Ty.den]); (try simp only [natc] at *); (repeat' (first | apply And.intro | intro _)))
              all_goals (repeat' (first | ((first | refine call_q (sp_least _ _) (by cbv) ?_ | refine call_pure (sp_least _ _) (by cbv) ?_); cbv; ((try simp only [IfP_iff, and_true, true_and, decide_eq_true_eq, decide_eq_false_iff_not]); (try simp only [natc, getI_gi, at2_0, at2_1]); (try dsimp only [Ty.den]); (try simp only [natc] at *); (repeat' (first | apply And.intro | intro _))))))
              all_goals (try (simp only [IfP_iff, EqU_iff, Obl_iff, and_true, true_and, inI_iff, decide_eq_true_eq, decide_eq_false_iff_not]; (try simp only [natc, getI_gi, at2_0, at2_1]); (try dsimp only [Ty.den]); try simp only [natc] at *))
              all_goals ((repeat' (first | apply And.intro | intro _)) <;> first | omega | exact x3 (by omega) | exact x2 (by omega) | (have y := t6 (by omega) (by omega); first | omega | exact (t3 (by omega) (by omega)).symm | exact (t4 (by omega) (by omega)).symm) | trace_state)
          all_goals (try (simp only [IfP_iff, EqU_iff, Obl_iff, and_true, true_and, inI_iff, decide_eq_true_eq, decide_eq_false_iff_not]; (try simp only [natc, getI_gi, at2_0, at2_1]); (try dsimp only [Ty.den]); try simp only [natc] at *))
          all_goals ((repeat' (first | apply And.intro | intro _)) <;> first | omega | exact e3 (by omega) | trace_state)
      all_goals (try (simp only [IfP_iff, EqU_iff, Obl_iff, and_true, true_and, inI_iff, decide_eq_true_eq, decide_eq_false_iff_not]; (try simp only [natc, getI_gi, at2_0, at2_1]); (try dsimp only [Ty.den]); try simp only [natc] at *))
      all_goals ((repeat' (first | apply And.intro | intro _)) <;> first | omega | exact hf3 | (rw [if_neg hneg]; exact c3 (by assumption)) | trace_state)
  all_goals (try (simp only [IfP_iff, EqU_iff, Obl_iff, and_true, true_and, inI_iff, decide_eq_true_eq, decide_eq_false_iff_not]; (try simp only [natc, getI_gi, at2_0, at2_1]); (try dsimp only [Ty.den]); try simp only [natc] at *))
  all_goals ((repeat' (first | apply And.intro | intro _)) <;> first | omega | (rw [if_pos (by assumption)]; done) | (exfalso; clear hm n3 hr n2 hS hd; grind) | (simp; omega) | trace_state)
theorem sp_count_bad (L : List (List Int)) (l : List (Int × Int)) (i j : Int) (hL : L.length ≤ 1048576) (hl : l.length ≤ 1048576) (hm : ∀ s ∈ L, s.length ≤ 1048576) (hb : okT L l i j = false) : Spec2 Try.prog 32 [.agg (.pr (.sl (.sl .int)) (.sl (.pr .int .int))) fun _ => (L, l), .int fun _ => i, .int fun _ => j] [] [.int fun _ => 0, .bool fun _ => false] [] := by
  have he := okT_two L l i j
  rw [hb] at he
  refine fnS [] [6, 7] Try.func32 rfl (by decide) rfl (by decide) (by kernel_rfl) rfl (by simp [Try.ntmps32]) ?_
  cbv
  ((try simp only [IfP_iff, and_true, true_and, decide_eq_true_eq, decide_eq_false_iff_not]); (try simp only [natc, getI_gi, at2_0, at2_1]); (try dsimp only [Ty.den]); (try simp only [natc] at *); (repeat' (first | apply And.intro | intro _)))
  all_goals (repeat' (first | ((first | refine call_q (sp_place L l i hL hl hm) (by cbv) ?_ | refine call_pure (sp_place L l i hL hl hm) (by cbv) ?_); cbv; ((try simp only [IfP_iff, and_true, true_and, decide_eq_true_eq, decide_eq_false_iff_not]); (try simp only [natc, getI_gi, at2_0, at2_1]); (try dsimp only [Ty.den]); (try simp only [natc] at *); (repeat' (first | apply And.intro | intro _)))) | ((first | refine call_q (sp_place L l j hL hl hm) (by cbv) ?_ | refine call_pure (sp_place L l j hL hl hm) (by cbv) ?_); cbv; ((try simp only [IfP_iff, and_true, true_and, decide_eq_true_eq, decide_eq_false_iff_not]); (try simp only [natc, getI_gi, at2_0, at2_1]); (try dsimp only [Ty.den]); (try simp only [natc] at *); (repeat' (first | apply And.intro | intro _))))))
  all_goals (try (simp only [IfP_iff, EqU_iff, Obl_iff, and_true, true_and, inI_iff, decide_eq_true_eq, decide_eq_false_iff_not]; (try simp only [natc, getI_gi, at2_0, at2_1]); (try dsimp only [Ty.den]); try simp only [natc] at *))
  all_goals ((repeat' (first | apply And.intro | intro _)) <;> first | omega | (exfalso; clear hm; grind) | skip)
def cntB2 (L : List (List Int)) (l : List (Int × Int)) (i j : Int) : Bool := okT L l i j && !decide (gi (distR L l i) j < 0)
def cntF (L : List (List Int)) (l : List (Int × Int)) (i j : Int) : Int := if okT L l i j = true then (if gi (distR L l i) j < 0 then 0 else cntQ L l i j) else 0
theorem sp_count (L : List (List Int)) (l : List (Int × Int)) (i j : Int) (hL : L.length ≤ 1048576) (hl : l.length ≤ 1048576) (hm : ∀ s ∈ L, s.length ≤ 1048576) : Spec2 Try.prog 32 [.agg (.pr (.sl (.sl .int)) (.sl (.pr .int .int))) fun _ => (L, l), .int fun _ => i, .int fun _ => j] [] [.int fun _ => cntF L l i j, .bool fun _ => cntB2 L l i j] [] := by
  unfold cntF cntB2
  cases h : okT L l i j with
  | false =>
    simp only [Bool.false_eq_true, if_false, Bool.false_and]
    exact sp_count_bad L l i j hL hl hm h
  | true =>
    simp only [if_true, Bool.true_and]
    exact sp_count_ok L l i j hL hl hm h
theorem im_count (L : List (List Int)) (l : List (Int × Int)) (i j : Int) (hL : L.length ≤ 1048576) (hl : l.length ≤ 1048576) (hm : ∀ s ∈ L, s.length ≤ 1048576) : Spec2 Try.prog 33 [.agg (.pr (.sl (.sl .int)) (.sl (.pr .int .int))) fun _ => (L, l), .int fun _ => i, .int fun _ => j] [] [.int fun _ => cntF L l i j, .bool fun _ => cntB2 L l i j] [] := by
  unfold cntF cntB2
  cases h : okT L l i j with
  | false =>
    simp only [Bool.false_eq_true, if_false, Bool.false_and]
    exact im_count_bad L l i j hL hl hm h
  | true =>
    simp only [if_true, Bool.true_and]
    exact im_count_ok L l i j hL hl hm h
end Go.Proofs.Ytemdajfcfmefnaa.M

/- Numbers of shortest ways: the program's walk. -/
import Derived.Test.YtemdajfcfmefnaaCiQ
import Derived.Test.YtemdajfcfmefnaaQg
namespace Go.Proofs.Ytemdajfcfmefnaa.M
open Go.RowKit Abs
set_option linter.unusedSimpArgs false
set_option linter.unusedVariables false
set_option maxRecDepth 100000
set_option maxHeartbeats 4000000
theorem cq_next {L : List (List Int)} {l : List (Int × Int)} {i k : Int} (h0 : 0 ≤ k) (h1 : k < ((queR L l i).length : Int)) : cq L l i (k + 1) = proc 1000000 (nearR l L.length) (distR L l i) (cq L l i k) (gi (queR L l i) k) := proc_next h0 h1
theorem cq_zero (L : List (List Int)) (l : List (Int × Int)) (i : Int) : cq L l i 0 = cstart L.length i := rfl
theorem cstart_eq {n : Nat} {m : Int} (i : Int) (h : m.toNat = n) : @Eq (List Int) (setI (List.replicate m.toNat (zden Ty.int)) i 1) (cstart n i) := by rw [h]; rfl
theorem hit_yes {M : Int} {D C : List Int} {u b : Int} (h : gi D u < gi D b) : hitC M D u C b = setI C b (min (gi C b + gi C u) M) := by unfold hitC; rw [if_pos h]
theorem hit_no {M : Int} {D C : List Int} {u b : Int} (h : ¬ gi D u < gi D b) : hitC M D u C b = C := by unfold hitC; rw [if_neg h]
theorem min_if (x : Int) : min x 1000000 = if 1000000 < x then 1000000 else x := by split <;> omega
theorem count_rounds {D r C : List Int} {n : Nat} {u : Int} (hn : okC 1000000 n C) :
    ∃ sC : Int → List Int, sC 0 = C ∧ (∀ m, okC 1000000 n (sC m)) ∧ (∀ m : Int, 0 ≤ m → m < (r.length : Int) → gi D u < gi D (gi r m) → sC (m + 1) = setI (sC m) (gi r m) (min (gi (sC m) (gi r m) + gi (sC m) u) 1000000)) ∧
      (∀ m : Int, 0 ≤ m → m < (r.length : Int) → ¬ gi D u < gi D (gi r m) → sC (m + 1) = sC m) ∧ (∀ m : Int, ¬ m < (r.length : Int) → sC m = r.foldl (hitC 1000000 D u) C) := by
  refine ⟨fun m => (r.take m.toNat).foldl (hitC 1000000 D u) C, rfl, fun m => okC_row (by omega) hn, fun m m0 m1 h => ?_, fun m m0 m1 h => ?_, fun m h => ?_⟩
  · simp only [row_next m0 m1]
    exact hit_yes h
  · simp only [row_next m0 m1]
    exact hit_no h
  · simp only [take_all h]
theorem im_count_ok (L : List (List Int)) (l : List (Int × Int)) (i j : Int) (hL : L.length ≤ 1048576) (hl : l.length ≤ 1048576) (hm : ∀ s ∈ L, s.length ≤ 1048576) (hb : okT L l i j = true) : Spec2 Try.prog 33 [.agg (.pr (.sl (.sl .int)) (.sl (.pr .int .int))) fun _ => (L, l), .int fun _ => i, .int fun _ => j] [] [.int fun _ => if gi (distR L l i) j < 0 then 0 else cntQ L l i j, .bool fun _ => !decide (gi (distR L l i) j < 0)] [] := by
  have hb' := hb
  simp only [okT, Bool.and_eq_true, decide_eq_true_eq] at hb'
  obtain ⟨hs, ⟨hi0, hi1⟩, hj0, hj1⟩ := hb'
  simp only [okT] at hb
  rw [← inAll_two rfl] at hb
  have hp := (space_parts hs).2.2.2
  obtain ⟨n1, n2, n3⟩ := near_ok hp
  have hd1 := (dist_ok hp hi0 hi1).1
  have hr : Spec2 Try.prog 64 [.sl (.sl .int) fun _ => nearR l L.length, .int fun _ => i, .fnr 65 fun _ => ofCaps []] [] [.ref 0, .ref 1] [some (.row 3 .int fun _ => queR L l i), some (.row 3 .int fun _ => distR L l i)] := im_reach (nearR l L.length) (fun _ => true) 65 (fun _ => ofCaps []) i hi0 (by omega) (by omega) n2 (fun r hr => Nat.le_trans (n3 r hr) hl) (fun v _ _ => ⟨[], rfl, fun _ => rfl, im_any v⟩)
  have q1 := (ord_queue hp hi0 hi1).1
  have hrow : ∀ p : Int, (getR .int (nearR l L.length) p).length ≤ 1048576 := fun p => by
    unfold getR
    rw [List.getD_eq_getElem?_getD]
    cases e : (nearR l L.length)[p.toNat]? with
    | none => simp
    | some r => exact Nat.le_trans (n3 r (List.mem_of_getElem? e)) hl
  have hql : (queR L l i).length ≤ 1048576 := by
    have := (search_inv (q := fun _ => true) hi0 (by omega) n2 : BOk _ (search (nearR l L.length) (fun _ => true) i)).cnt
    unfold queR
    omega
  have hu : ∀ k : Int, 0 ≤ k → k < ((queR L l i).length : Int) → 0 ≤ gi (queR L l i) k ∧ gi (queR L l i) k < L.length := fun k k0 a => by
    have := q1.mem _ (gi_mem k0 a)
    rw [n1] at this
    exact ⟨this.1, this.2.1⟩
  have hx : ∀ k : Int, ¬ k < ((queR L l i).length : Int) → cntQ L l i j = gi (cq L l i k) j := fun k a => by
    unfold cntQ cq
    rw [take_all a]
  have hc : ∀ k : Int, okC 1000000 L.length (cq L l i k) := fun k => okC_proc (by omega) (okC_start (by omega) _ _)
  have hcs := cstart_eq (n := L.length) (m := ((nearR l L.length).length : Int)) i (by rw [n1]; simp)
  have hcz := cq_zero L l i
  refine fnS [] [6, 7] Try.func33 rfl (by decide) rfl (by decide) (by kernel_rfl) rfl (by simp [Try.ntmps33]) ?_
  cbv
  repeat' (first | ((first | refine call_q (im_hasPlaces L l [i, j] (by simp) hL hl hm) (by cbv) ?_ | refine call_pure (im_hasPlaces L l [i, j] (by simp) hL hl hm) (by cbv) ?_); cbv; ((try simp only [IfP_iff, and_true, true_and, decide_eq_true_eq, decide_eq_false_iff_not]); (try simp only [natc, getI_gi, at2_0, at2_1]); (try dsimp only [Ty.den]); (try simp only [natc] at *); (repeat' (first | apply And.intro | intro _)))) | ((first | refine call_q (im_stepLists L l hL hl hp) (by cbv) ?_ | refine call_pure (im_stepLists L l hL hl hp) (by cbv) ?_); cbv; ((try simp only [IfP_iff, and_true, true_and, decide_eq_true_eq, decide_eq_false_iff_not]); (try simp only [natc, getI_gi, at2_0, at2_1]); (try dsimp only [Ty.den]); (try simp only [natc] at *); (repeat' (first | apply And.intro | intro _)))) | ((first | refine call_q hr (by cbv) ?_ | refine call_pure hr (by cbv) ?_); cbv; ((try simp only [IfP_iff, and_true, true_and, decide_eq_true_eq, decide_eq_false_iff_not]); (try simp only [natc, getI_gi, at2_0, at2_1]); (try dsimp only [Ty.den]); (try simp only [natc] at *); (repeat' (first | apply And.intro | intro _)))))
  rotate_right 1
  · refine loopP (by kernel_rfl) (fun k : Int => 0 ≤ k ∧ k ≤ (queR L l i).length) (fun k => [(43, .int fun _ => k)]) (fun k => [(5, some (.row 3 .int fun _ => cq L l i k))]) (fun k => ((queR L l i).length - k).toNat) (· + 1) 0 (by omega) ?_ ?_
    · cbv
      (simp only [IfP_iff, EqU_iff, Obl_iff, and_true, true_and, inI_iff, decide_eq_true_eq, decide_eq_false_iff_not]; (try simp only [natc, getI_gi, at2_0, at2_1]); (try dsimp only [Ty.den]); try simp only [natc] at *)
      rw [hcz]
      exact hcs
    · intro k hk
      have u1 := hu k hk.1
      have u2 := hx k
      have u3 := (hc k).1
      have u4 := (hc k).2
      have u5 := cq_next (L := L) (l := l) (i := i) hk.1
      have u6 := hrow (gi (queR L l i) k)
      have u7 := fun a b => near_row n2 (gi (queR L l i) k) a b
      clear hu hx hrow
      cbv
      ((try simp only [IfP_iff, and_true, true_and, decide_eq_true_eq, decide_eq_false_iff_not]); (try simp only [natc, getI_gi, at2_0, at2_1]); (try dsimp only [Ty.den]); (try simp only [natc] at *); (repeat' (first | apply And.intro | intro _)))
      rotate_left 2
      · have hkq : k < ((queR L l i).length : Int) := by assumption
        have v5 := u5 hkq
        have v1 := u1 hkq
        obtain ⟨sC, s0, s1, s2, s3, s4⟩ := count_rounds (D := distR L l i) (r := getR .int (nearR l L.length) (gi (queR L l i) k)) (u := gi (queR L l i) k) (hc k)
        refine loopP (by kernel_rfl) (fun m : Int => 0 ≤ m ∧ m ≤ (getR .int (nearR l L.length) (gi (queR L l i) k)).length) (fun m => [(52, .int fun _ => m)]) (fun m => [(5, some (.row 3 .int fun _ => sC m))]) (fun m => ((getR .int (nearR l L.length) (gi (queR L l i) k)).length - m).toNat) (· + 1) 0 (by omega) ?_ ?_
        · cbv
          (simp only [IfP_iff, EqU_iff, Obl_iff, and_true, true_and, inI_iff, decide_eq_true_eq, decide_eq_false_iff_not]; (try simp only [natc, getI_gi, at2_0, at2_1]); (try dsimp only [Ty.den]); try simp only [natc] at *)
          rw [s0]
        · intro m hm2
          have t1 := (s1 m).1
          have t2 := (s1 m).2
          have t3 := s2 m hm2.1
          rw [min_if] at t3
          have t4 := s3 m hm2.1
          have t5 := s4 m
          have t6 := fun a => u7 (gi (getR .int (nearR l L.length) (gi (queR L l i) k)) m) (gi_mem hm2.1 a)
          have t7 := t2 (gi (queR L l i) k)
          have t8 := t2 (gi (getR .int (nearR l L.length) (gi (queR L l i) k)) m)
          clear s0 s1 s2 s3 s4 u1 u2 u3 u4 u5 u7 hc hr t2
          cbv
          ((try simp only [IfP_iff, and_true, true_and, decide_eq_true_eq, decide_eq_false_iff_not]); (try simp only [natc, getI_gi, at2_0, at2_1]); (try dsimp only [Ty.den]); (try simp only [natc] at *); (repeat' (first | apply And.intro | intro _)))
          all_goals (try (simp only [IfP_iff, EqU_iff, Obl_iff, and_true, true_and, inI_iff, decide_eq_true_eq, decide_eq_false_iff_not]; (try simp only [natc, getI_gi, at2_0, at2_1]); (try dsimp only [Ty.den]); try simp only [natc] at *))
          all_goals ((repeat' (first | apply And.intro | intro _)) <;> first | omega | exact (t3 (by assumption) (by assumption)).symm | exact (t4 (by assumption) (by assumption)).symm | (rw [v5, t5 (by assumption)]; rfl) | trace_state)
      all_goals (try (simp only [IfP_iff, EqU_iff, Obl_iff, and_true, true_and, inI_iff, decide_eq_true_eq, decide_eq_false_iff_not]; (try simp only [natc, getI_gi, at2_0, at2_1]); (try dsimp only [Ty.den]); try simp only [natc] at *))
      all_goals ((repeat' (first | apply And.intro | intro _)) <;> first | omega | (rw [u2 (by assumption), if_neg (by assumption)]; done) | (simp; omega) | trace_state)
  all_goals (try (simp only [IfP_iff, EqU_iff, Obl_iff, and_true, true_and, inI_iff, decide_eq_true_eq, decide_eq_false_iff_not]; (try simp only [natc, getI_gi, at2_0, at2_1]); (try dsimp only [Ty.den]); try simp only [natc] at *))
  all_goals ((repeat' (first | apply And.intro | intro _)) <;> first | omega | (rw [if_pos (by assumption)]; done) | (exfalso; clear hm n3 hr n2; grind) | (simp; omega) | trace_state)
end Go.Proofs.Ytemdajfcfmefnaa.M

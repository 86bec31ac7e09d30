/- The lowest and the highest of a solution: the program. -/
import Derived.Test.YtcgeedklfejhbaaAyQ
import Derived.Test.YtcgeedklfejhbaaGlQ
import Derived.Test.YtcgeedklfejhbaaLpQ
import Derived.Test.YtcgeedklfejhbaaSjQ
import Derived.Test.YtcgeedklfejhbaaQc
namespace Go.Proofs.Ytcgeedklfejhbaa.M
open Go.RowKit Abs
set_option linter.unusedSimpArgs false
set_option linter.unusedVariables false
set_option maxRecDepth 100000
set_option maxHeartbeats 4000000
theorem im_flipped3 (n : Int) (l : List Int) (v : Int) (hl : l.length = 6) (h0 : 0 ≤ v) (h1 : v < 6) (hi : inI (1 - gi l v)) : Spec2 Try.prog 75 [.agg (.pr .int (.ar 5 .int)) fun _ => (gi (n :: l) 0, List.drop 1 (n :: l)), .int fun _ => v] [] [.agg (.pr .int (.ar 5 .int)) fun _ => (n, flipV l v)] [] := im_flipped (n, l) v hl h0 h1 hi
theorem im_isMet3 (n m : Int) (L : List (List Int)) (l : List Int) (hl : l.length = 6) (hL : L.length ≤ 1048576) (hm : ∀ c ∈ L, c.length ≤ 1048576) (hx : ∀ c ∈ L, litsIn c) : Spec2 Try.prog 69 [.agg (.pr .int (.sl (.sl .int))) fun _ => (n, L), .agg (.pr .int (.ar 5 .int)) fun _ => (gi (m :: l) 0, List.drop 1 (m :: l))] [] [.bool fun _ => !L.any (notMet l)] [] := im_isMet n m L l hl hL hm hx
theorem sub_cons {n k : Int} {l : List Int} (h0 : 0 ≤ k) : subL (n :: l) 1 (1 + k) = l.take k.toNat := by
  unfold subL
  rw [show (1 + k).toNat = k.toNat + 1 by omega, List.take_succ_cons]
  rfl
theorem im_list0 (n : Int) (l : List Int) (hl : l.length = 6) (h0 : 0 ≤ n) (h1 : n ≤ 6) : Spec2 Try.prog 101 [.agg (.pr .int (.ar 5 .int)) fun _ => (n, l)] [] [.ref 0] [some (.row 3 .int fun _ => l.take n.toNat)] := by
  have e0 : gi (n :: l) ((0 : Nat) : Int) = n := rfl
  have e1 : subL (n :: l) ((1 : Nat) : Int) (((1 : Nat) : Int) + gi (n :: l) ((0 : Nat) : Int)) = l.take n.toNat := sub_cons h0
  have e2 : (subL (n :: l) ((1 : Nat) : Int) (((1 : Nat) : Int) + gi (n :: l) ((0 : Nat) : Int))).length ≤ 1048576 := by rw [e1, List.length_take]; omega
  have e3 : (((n :: l).length : Nat) : Int) = 7 := by rw [List.length_cons, hl]; rfl
  refine fnS [1] [2] Try.func101 rfl (by decide) rfl (by decide) (by kernel_rfl) rfl (by simp [Try.ntmps101]) ?_
  cbv
  ((try simp only [IfP_iff, and_true, true_and, decide_eq_true_eq, decide_eq_false_iff_not]); (try simp only [natc, getI_gi, at2_0, at2_1]); (try dsimp only [Ty.den]); (try simp only [natc] at *); (repeat' (first | apply And.intro | intro _)))
  all_goals (repeat' (first | ((first | refine call_q (go_clone _ e2) (by cbv) ?_ | refine call_pure (go_clone _ e2) (by cbv) ?_); cbv; ((try simp only [IfP_iff, and_true, true_and, decide_eq_true_eq, decide_eq_false_iff_not]); (try simp only [natc, getI_gi, at2_0, at2_1]); (try dsimp only [Ty.den]); (try simp only [natc] at *); (repeat' (first | apply And.intro | intro _))))))
  all_goals (try (simp only [IfP_iff, EqU_iff, Obl_iff, and_true, true_and, inI_iff, decide_eq_true_eq, decide_eq_false_iff_not]; (try simp only [natc, getI_gi, at2_0, at2_1]); (try dsimp only [Ty.den]); try simp only [natc] at *))
  · rw [e0, e3]
    exact ⟨h0, h1, by decide⟩
  · exact e1
theorem im_list (n : Int) (l : List Int) (hl : l.length = 6) (h0 : 0 ≤ n) (h1 : n ≤ 6) : Spec2 Try.prog 101 [.agg (.pr .int (.ar 5 .int)) fun _ => (gi (n :: l) 0, List.drop 1 (n :: l))] [] [.ref 0] [some (.row 3 .int fun _ => l.take n.toNat)] := im_list0 n l hl h0 h1
theorem take_pad {n : Int} {r : List Int} (h : (r.length : Int) = n) : (padN r).take n.toNat = r := by
  unfold padN
  rw [List.take_append_of_le_length (by omega), List.take_of_length_le (by omega)]
theorem im_settled (n num : Int) (L : List (List Int)) (r : List Int) (hL : L.length ≤ 1048576) (hm : ∀ c ∈ L, c.length ≤ 1048576) (hx : ∀ c ∈ L, ∀ x ∈ c, inI x) (hr : r.length ≤ 1048576) (hb : num = 0 ∨ num = 1) (hc : okS n L r = true) : Spec2 Try.prog 77 [.agg (.pr .int (.sl (.sl .int))) fun _ => (n, L), .sl .int fun _ => r, .int fun _ => num] [] [.ref 0, .bool fun _ => true] [some (.row 3 .int fun _ => lowR L num n r)] := by
  obtain ⟨k1, k2, k3, k4, k5, k6, k7⟩ := okS_in hc
  have k10 : ∀ c ∈ L, litsIn c := fun c hc x hxc => by
    have := (form_lits k1).2.2 c hc x hxc
    exact ⟨hx c hc x hxc, this.1, by omega⟩
  have hsol := im_solFor n L r hL hm hx hr
  rw [hc, k3] at hsol
  clear hx
  refine fnS [2] [6, 7] Try.func77 rfl (by decide) rfl (by decide) (by kernel_rfl) rfl (by simp [Try.ntmps77]) ?_
  cbv
  have hI0 := down_start (L := L) (num := num) k2
  obtain ⟨R, hR⟩ : ∃ R, R = lowR L num n r := ⟨_, rfl⟩
  obtain ⟨x0, hx⟩ : ∃ x0 : Nat × List Int, x0 = (r.length, r) := ⟨_, rfl⟩
  have hx0 : x0.2 = r := by rw [hx]
  rw [← hR] at hI0 ⊢
  rw [← hx] at hI0
  clear hx hR
  obtain ⟨x1, hx1⟩ : ∃ x1 : Nat × List Int, x1 = stepR L num n x0 := ⟨_, rfl⟩
  refine scopeP 0 rfl (by kernel_rfl) (by kernel_rfl) (fun x : Nat × List Int => DownI L num n R x) (fun x => [(8, .eptr 1 (fun _ => 0) 0)]) (fun x => [some (.arr 73 6 .int fun _ => n :: padN x.2)]) (fun x => x.1) (stepR L num n) x1 ?_ ?_
  · have hI := hI0
    cbv
    ((try simp only [IfP_iff, and_true, true_and, decide_eq_true_eq, decide_eq_false_iff_not]); (try simp only [natc, getI_gi, at2_0, at2_1]); (try dsimp only [Ty.den]); (try simp only [natc] at *); (repeat' (first | apply And.intro | intro _)))
    all_goals (repeat' (first | ((first | refine call_q hsol (by cbv) ?_ | refine call_pure hsol (by cbv) ?_); cbv; ((try simp only [IfP_iff, and_true, true_and, decide_eq_true_eq, decide_eq_false_iff_not]); (try simp only [natc, getI_gi, at2_0, at2_1]); (try dsimp only [Ty.den]); (try simp only [natc] at *); (repeat' (first | apply And.intro | intro _))))))
    all_goals (try (simp only [IfP_iff, EqU_iff, Obl_iff, and_true, true_and, inI_iff, decide_eq_true_eq, decide_eq_false_iff_not]; (try simp only [natc, getI_gi, at2_0, at2_1]); (try dsimp only [Ty.den]); try simp only [natc] at *))
    iterate 2
      · exact absurd (by assumption : (!true) = true) (by decide)
    have g0 := k2
    have g1 : (padN r).length = 6 := padN_len (by have := (asgB_in g0).1; omega)
    have gl : (r.length : Int) = n := (asgB_in g0).1
    have e0 : gi (n :: padN r) ((0 : Nat) : Int) = n := rfl
    have e0' : gi (n :: padN r) 0 = n := rfl
    have e3 : (((n :: padN r).length : Nat) : Int) = 7 := by rw [List.length_cons, g1]; rfl
    have g7 : nxtV L num n r = -1 → (padN r).take n.toNat = R := fun h => by rw [take_pad gl, hI.res, hx0, down_none h]
    refine loopP (by kernel_rfl) (fun v : Int => 0 ≤ v ∧ v ≤ n ∧ ∀ j : Int, 0 ≤ j → j < v → canB L num r j = false) (fun v => [(23, .int fun _ => v)]) (fun _ => []) (fun v => (n - v).toNat) (· + 1) 0 (by grind) ?_ ?_
    · cbv
      (simp only [IfP_iff, EqU_iff, Obl_iff, and_true, true_and, inI_iff, decide_eq_true_eq, decide_eq_false_iff_not]; (try simp only [natc, getI_gi, at2_0, at2_1]); (try dsimp only [Ty.den]); try simp only [natc] at *)
    · intro v hv
      have j1 := bit_pad g0 v
      have j2 : inI (1 - gi (padN r) v) := by unfold inI; omega
      have j3 : (flipV (padN r) v).length = 6 := by rw [flipV_len, g1]
      have j4 : canB L num r v = (decide (gi r v = num) && solB L (flipV r v)) := rfl
      have j5 : v < n → (!L.any (notMet (flipV (padN r) v))) = solB L (flipV r v) := fun a => flip_sol k1 g0 hv.1 a
      have j6 : v < n → gi (n :: padN r) (((1 : Nat) : Int) + v) = gi r v := fun a => (cons_at hv.1).trans (gi_pad hv.1 (by omega))
      have j7 : v < n → padN (flipV r v) = flipV (padN r) v := fun a => pad_flip hv.1 (by omega) (by omega)
      have i5 := upTo (p := fun j => !canB L num r j) (k := v) (by simpa using hv.2.2)
      simp only [Bool.not_eq_true'] at i5
      have i6 : v < n → canB L num r v = true → nxtV L num n r = v := fun a b => nxt_hit hv.1 a b hv.2.2
      have i7 : ¬ v < n → nxtV L num n r = -1 := fun a => nxt_none fun j b c => hv.2.2 j b (by omega)
      have i8 : v < n → gi r v = num → nxtV L num n r = v → DownI L num n R x1 ∧ x1.1 < x0.1 ∧ x1.2 = flipV r v := fun a c d => by
        have h := down_step hI hb hv.1 a (by rw [hx0]; exact c) (by rw [hx0]; exact d)
        rw [hx0, ← hx1] at h
        exact h
      have j8 : v < gi (n :: padN r) ((0 : Nat) : Int) → gi (n :: padN r) (((1 : Nat) : Int) + v) = num → (!L.any (notMet (flipV (padN r) v))) = true → DownI L num n R x1 ∧ x1.1 < x0.1 ∧ n :: flipV (padN r) v = n :: padN x1.2 := fun a b c => by
        rw [e0] at a
        rw [j6 a] at b
        rw [j5 a] at c
        have d := i8 a b (i6 a (by rw [j4, c, decide_eq_true b]; rfl))
        exact ⟨d.1, d.2.1, by rw [d.2.2, j7 a]⟩
      have j9 : v < gi (n :: padN r) ((0 : Nat) : Int) → ¬ gi (n :: padN r) (((1 : Nat) : Int) + v) = num → canB L num r v = false := fun a b => by
        rw [e0] at a
        rw [j6 a] at b
        rw [j4, decide_eq_false b]
        rfl
      have j10 : v < gi (n :: padN r) ((0 : Nat) : Int) → (!L.any (notMet (flipV (padN r) v))) = false → canB L num r v = false := fun a b => by
        rw [e0] at a
        rw [j5 a] at b
        rw [j4, b, Bool.and_false]
      clear hI i8 i6 j4 j5 j6 j7
      cbv
      ((try simp only [IfP_iff, and_true, true_and, decide_eq_true_eq, decide_eq_false_iff_not]); (try simp only [natc, getI_gi, at2_0, at2_1]); (try dsimp only [Ty.den]); (try simp only [natc] at *); (repeat' (first | apply And.intro | intro _)))
      all_goals (repeat' (first | ((first | refine call_q (im_flipped3 n (padN r) v g1 hv.1 (by omega) j2) (by cbv) ?_ | refine call_pure (im_flipped3 n (padN r) v g1 hv.1 (by omega) j2) (by cbv) ?_); cbv; ((try simp only [IfP_iff, and_true, true_and, decide_eq_true_eq, decide_eq_false_iff_not]); (try simp only [natc, getI_gi, at2_0, at2_1]); (try dsimp only [Ty.den]); (try simp only [natc] at *); (repeat' (first | apply And.intro | intro _)))) | ((first | refine call_q (im_isMet3 n n L (flipV (padN r) v) j3 hL hm k10) (by cbv) ?_ | refine call_pure (im_isMet3 n n L (flipV (padN r) v) j3 hL hm k10) (by cbv) ?_); cbv; ((try simp only [IfP_iff, and_true, true_and, decide_eq_true_eq, decide_eq_false_iff_not]); (try simp only [natc, getI_gi, at2_0, at2_1]); (try dsimp only [Ty.den]); (try simp only [natc] at *); (repeat' (first | apply And.intro | intro _)))) | ((first | refine call_q (im_list n (padN r) g1 k4 k5) (by cbv) ?_ | refine call_pure (im_list n (padN r) g1 k4 k5) (by cbv) ?_); cbv; ((try simp only [IfP_iff, and_true, true_and, decide_eq_true_eq, decide_eq_false_iff_not]); (try simp only [natc, getI_gi, at2_0, at2_1]); (try dsimp only [Ty.den]); (try simp only [natc] at *); (repeat' (first | apply And.intro | intro _))))))
      all_goals (try clear hm k10 hsol)
      all_goals (try (simp only [IfP_iff, EqU_iff, Obl_iff, and_true, true_and, inI_iff, decide_eq_true_eq, decide_eq_false_iff_not]; (try simp only [natc, getI_gi, at2_0, at2_1]); (try dsimp only [Ty.den]); try simp only [natc] at *))
      all_goals ((repeat' (first | apply And.intro | intro _)) <;> first | omega | exact (j8 (by assumption) (by assumption) (by assumption)).1 | exact (j8 (by assumption) (by assumption) (by assumption)).2.1 | exact (j8 (by assumption) (by assumption) (by assumption)).2.2 | grind | (trace_state; fail))
  · intro x hI
    cbv
    ((try simp only [IfP_iff, and_true, true_and, decide_eq_true_eq, decide_eq_false_iff_not]); (try simp only [natc, getI_gi, at2_0, at2_1]); (try dsimp only [Ty.den]); (try simp only [natc] at *); (repeat' (first | apply And.intro | intro _)))
    have g0 := hI.asg
    have g1 : (padN x.2).length = 6 := padN_len (by have := (asgB_in g0).1; omega)
    have gl : (x.2.length : Int) = n := (asgB_in g0).1
    have e0 : gi (n :: padN x.2) ((0 : Nat) : Int) = n := rfl
    have e0' : gi (n :: padN x.2) 0 = n := rfl
    have e3 : (((n :: padN x.2).length : Nat) : Int) = 7 := by rw [List.length_cons, g1]; rfl
    have g7 : nxtV L num n x.2 = -1 → (padN x.2).take n.toNat = R := fun h => by rw [take_pad gl, hI.res, down_none h]
    refine loopP (by kernel_rfl) (fun v : Int => 0 ≤ v ∧ v ≤ n ∧ ∀ j : Int, 0 ≤ j → j < v → canB L num x.2 j = false) (fun v => [(23, .int fun _ => v)]) (fun _ => []) (fun v => (n - v).toNat) (· + 1) 0 (by grind) ?_ ?_
    · cbv
      (simp only [IfP_iff, EqU_iff, Obl_iff, and_true, true_and, inI_iff, decide_eq_true_eq, decide_eq_false_iff_not]; (try simp only [natc, getI_gi, at2_0, at2_1]); (try dsimp only [Ty.den]); try simp only [natc] at *)
    · intro v hv
      have j1 := bit_pad g0 v
      have j2 : inI (1 - gi (padN x.2) v) := by unfold inI; omega
      have j3 : (flipV (padN x.2) v).length = 6 := by rw [flipV_len, g1]
      have j4 : canB L num x.2 v = (decide (gi x.2 v = num) && solB L (flipV x.2 v)) := rfl
      have j5 : v < n → (!L.any (notMet (flipV (padN x.2) v))) = solB L (flipV x.2 v) := fun a => flip_sol k1 g0 hv.1 a
      have j6 : v < n → gi (n :: padN x.2) (((1 : Nat) : Int) + v) = gi x.2 v := fun a => (cons_at hv.1).trans (gi_pad hv.1 (by omega))
      have j7 : v < n → padN (flipV x.2 v) = flipV (padN x.2) v := fun a => pad_flip hv.1 (by omega) (by omega)
      have i5 := upTo (p := fun j => !canB L num x.2 j) (k := v) (by simpa using hv.2.2)
      simp only [Bool.not_eq_true'] at i5
      have i6 : v < n → canB L num x.2 v = true → nxtV L num n x.2 = v := fun a b => nxt_hit hv.1 a b hv.2.2
      have i7 : ¬ v < n → nxtV L num n x.2 = -1 := fun a => nxt_none fun j b c => hv.2.2 j b (by omega)
      have i8 : v < n → gi x.2 v = num → nxtV L num n x.2 = v → DownI L num n R (stepR L num n x) ∧ (stepR L num n x).1 < x.1 ∧ (stepR L num n x).2 = flipV x.2 v := fun a c d => down_step hI hb hv.1 a c d
      have j8 : v < gi (n :: padN x.2) ((0 : Nat) : Int) → gi (n :: padN x.2) (((1 : Nat) : Int) + v) = num → (!L.any (notMet (flipV (padN x.2) v))) = true → DownI L num n R (stepR L num n x) ∧ (stepR L num n x).1 < x.1 ∧ n :: flipV (padN x.2) v = n :: padN (stepR L num n x).2 := fun a b c => by
        rw [e0] at a
        rw [j6 a] at b
        rw [j5 a] at c
        have d := i8 a b (i6 a (by rw [j4, c, decide_eq_true b]; rfl))
        exact ⟨d.1, d.2.1, by rw [d.2.2, j7 a]⟩
      have j9 : v < gi (n :: padN x.2) ((0 : Nat) : Int) → ¬ gi (n :: padN x.2) (((1 : Nat) : Int) + v) = num → canB L num x.2 v = false := fun a b => by
        rw [e0] at a
        rw [j6 a] at b
        rw [j4, decide_eq_false b]
        rfl
      have j10 : v < gi (n :: padN x.2) ((0 : Nat) : Int) → (!L.any (notMet (flipV (padN x.2) v))) = false → canB L num x.2 v = false := fun a b => by
        rw [e0] at a
        rw [j5 a] at b
        rw [j4, b, Bool.and_false]
      clear hI i8 i6 j4 j5 j6 j7
      cbv
      ((try simp only [IfP_iff, and_true, true_and, decide_eq_true_eq, decide_eq_false_iff_not]); (try simp only [natc, getI_gi, at2_0, at2_1]); (try dsimp only [Ty.den]); (try simp only [natc] at *); (repeat' (first | apply And.intro | intro _)))
      all_goals (repeat' (first | ((first | refine call_q (im_flipped3 n (padN x.2) v g1 hv.1 (by omega) j2) (by cbv) ?_ | refine call_pure (im_flipped3 n (padN x.2) v g1 hv.1 (by omega) j2) (by cbv) ?_); cbv; ((try simp only [IfP_iff, and_true, true_and, decide_eq_true_eq, decide_eq_false_iff_not]); (try simp only [natc, getI_gi, at2_0, at2_1]); (try dsimp only [Ty.den]); (try simp only [natc] at *); (repeat' (first | apply And.intro | intro _)))) | ((first | refine call_q (im_isMet3 n n L (flipV (padN x.2) v) j3 hL hm k10) (by cbv) ?_ | refine call_pure (im_isMet3 n n L (flipV (padN x.2) v) j3 hL hm k10) (by cbv) ?_); cbv; ((try simp only [IfP_iff, and_true, true_and, decide_eq_true_eq, decide_eq_false_iff_not]); (try simp only [natc, getI_gi, at2_0, at2_1]); (try dsimp only [Ty.den]); (try simp only [natc] at *); (repeat' (first | apply And.intro | intro _)))) | ((first | refine call_q (im_list n (padN x.2) g1 k4 k5) (by cbv) ?_ | refine call_pure (im_list n (padN x.2) g1 k4 k5) (by cbv) ?_); cbv; ((try simp only [IfP_iff, and_true, true_and, decide_eq_true_eq, decide_eq_false_iff_not]); (try simp only [natc, getI_gi, at2_0, at2_1]); (try dsimp only [Ty.den]); (try simp only [natc] at *); (repeat' (first | apply And.intro | intro _))))))
      all_goals (try clear hm k10 hsol)
      all_goals (try (simp only [IfP_iff, EqU_iff, Obl_iff, and_true, true_and, inI_iff, decide_eq_true_eq, decide_eq_false_iff_not]; (try simp only [natc, getI_gi, at2_0, at2_1]); (try dsimp only [Ty.den]); try simp only [natc] at *))
      all_goals ((repeat' (first | apply And.intro | intro _)) <;> first | omega | exact (j8 (by assumption) (by assumption) (by assumption)).1 | exact (j8 (by assumption) (by assumption) (by assumption)).2.1 | exact (j8 (by assumption) (by assumption) (by assumption)).2.2 | grind | (trace_state; fail))
end Go.Proofs.Ytcgeedklfejhbaa.M

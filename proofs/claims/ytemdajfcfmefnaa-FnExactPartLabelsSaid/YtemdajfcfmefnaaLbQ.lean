/- The labels of parts, in the program. -/
import Derived.Test.YtemdajfcfmefnaaLaQ
import Derived.Test.YtemdajfcfmefnaaQg
namespace Go.Proofs.Ytemdajfcfmefnaa.M
open Go.RowKit Abs
set_option linter.unusedSimpArgs false
set_option linter.unusedVariables false
set_option maxRecDepth 100000
set_option maxHeartbeats 4000000
theorem im_labels_bad (L : List (List Int)) (l : List (Int × Int)) (hL : L.length ≤ 1048576) (hl : l.length ≤ 1048576) (hm : ∀ s ∈ L, s.length ≤ 1048576) (hb : spaceOk L l = false) : Spec2 Try.prog 42 [.agg (.pr (.sl (.sl .int)) (.sl (.pr .int .int))) fun _ => (L, l)] [] [.ref 0, .bool fun _ => false] [some (.row 3 .int fun _ => [])] := by
  refine fnS [1] [2, 3] Try.func42 rfl (by decide) rfl (by decide) (by kernel_rfl) rfl (by simp [Try.ntmps42]) ?_
  cbv
  repeat' (first | ((first | refine call_q (im_space L l hL hl hm) (by cbv) ?_ | refine call_pure (im_space L l hL hl hm) (by cbv) ?_); cbv; ((try simp only [IfP_iff, and_true, true_and, decide_eq_true_eq, decide_eq_false_iff_not]); (try simp only [natc, getI_gi, at2_0, at2_1]); (try dsimp only [Ty.den]); (try simp only [natc] at *); (repeat' (first | apply And.intro | intro _)))))
  all_goals (try (simp only [IfP_iff, EqU_iff, Obl_iff, and_true, true_and, inI_iff, decide_eq_true_eq, decide_eq_false_iff_not]; (try simp only [natc, getI_gi, at2_0, at2_1]); (try dsimp only [Ty.den]); try simp only [natc] at *))
  all_goals (first | omega | (exfalso; clear hm; grind) | skip)
theorem im_labels_ok (L : List (List Int)) (l : List (Int × Int)) (hL : L.length ≤ 1048576) (hl : l.length ≤ 1048576) (hm : ∀ s ∈ L, s.length ≤ 1048576) (hb : spaceOk L l = true) : Spec2 Try.prog 42 [.agg (.pr (.sl (.sl .int)) (.sl (.pr .int .int))) fun _ => (L, l)] [] [.ref 0, .bool fun _ => true] [some (.row 3 .int fun _ => labelsR L l)] := by
  have hp := (space_parts hb).2.2.2
  have hn := (space_parts hb).1
  have hps := (parts_ok hp).1
  have hin := fun i k a b c d => part_in (L := L) (l := l) hp (i := i) (k := k) a b c d
  have hlen : ∀ i : Int, 0 ≤ i → i < ((partsR L l).length : Int) → ((getR .int (partsR L l) i).length : Int) ≤ L.length := fun i a b => ((parts_ok hp).2 _ (getR_mem a b)).2.1
  have hz := zero_row (n := L.length) (m := (L.length : Int)) (by simp)
  refine fnS [1] [2, 3] Try.func42 rfl (by decide) rfl (by decide) (by kernel_rfl) rfl (by simp [Try.ntmps42]) ?_
  cbv
  repeat' (first | ((first | refine call_q (im_space L l hL hl hm) (by cbv) ?_ | refine call_pure (im_space L l hL hl hm) (by cbv) ?_); cbv; ((try simp only [IfP_iff, and_true, true_and, decide_eq_true_eq, decide_eq_false_iff_not]); (try simp only [natc, getI_gi, at2_0, at2_1]); (try dsimp only [Ty.den]); (try simp only [natc] at *); (repeat' (first | apply And.intro | intro _)))) | ((first | refine call_q (im_stepLists L l hL hl hp) (by cbv) ?_ | refine call_pure (im_stepLists L l hL hl hp) (by cbv) ?_); cbv; ((try simp only [IfP_iff, and_true, true_and, decide_eq_true_eq, decide_eq_false_iff_not]); (try simp only [natc, getI_gi, at2_0, at2_1]); (try dsimp only [Ty.den]); (try simp only [natc] at *); (repeat' (first | apply And.intro | intro _)))) | ((first | refine call_q (im_parts L l hL hl hp) (by cbv) ?_ | refine call_pure (im_parts L l hL hl hp) (by cbv) ?_); cbv; ((try simp only [IfP_iff, and_true, true_and, decide_eq_true_eq, decide_eq_false_iff_not]); (try simp only [natc, getI_gi, at2_0, at2_1]); (try dsimp only [Ty.den]); (try simp only [natc] at *); (repeat' (first | apply And.intro | intro _)))))
  rotate_right 1
  · refine loopP (by kernel_rfl) (fun i : Int => 0 ≤ i ∧ i ≤ (partsR L l).length) (fun i => [(21, .int fun _ => i)]) (fun i => [(1, some (.row 3 .int fun _ => putTo (fun i _ => i) (partsR L l) (List.replicate L.length 0) i.toNat))]) (fun i => ((partsR L l).length - i).toNat) (· + 1) 0 (by simp) ?_ ?_
    · cbv
      (simp only [IfP_iff, EqU_iff, Obl_iff, and_true, true_and, inI_iff, decide_eq_true_eq, decide_eq_false_iff_not]; (try simp only [natc, getI_gi, at2_0, at2_1]); (try dsimp only [Ty.den]); try simp only [natc] at *)
      rw [putTo_zero]
      exact hz
    · intro i hi
      have e1 := putTo_next (F := fun i _ => i) (P := partsR L l) (o := List.replicate L.length 0) hi.1
      have e2 := putTo_len (F := fun i _ => i) (P := partsR L l) (o := List.replicate L.length 0) i.toNat
      have e3 : ¬ i < ((partsR L l).length : Int) → putTo (fun i _ => i) (partsR L l) (List.replicate L.length 0) i.toNat = labelsR L l := fun a => by
        unfold labelsR
        rw [show i.toNat = (partsR L l).length by omega]
      have e4 := hlen i hi.1
      have e5 := hin i
      rw [List.length_replicate] at e2
      cbv
      ((try simp only [IfP_iff, and_true, true_and, decide_eq_true_eq, decide_eq_false_iff_not]); (try simp only [natc, getI_gi, at2_0, at2_1]); (try dsimp only [Ty.den]); (try simp only [natc] at *); (repeat' (first | apply And.intro | intro _)))
      rotate_left 1
      · have hin2 : i < ((partsR L l).length : Int) := by omega
        refine loopP (by kernel_rfl) (fun k : Int => 0 ≤ k ∧ k ≤ (getR .int (partsR L l) i).length) (fun k => [(28, .int fun _ => k)]) (fun k => [(1, some (.row 3 .int fun _ => putAll (fun _ => i) ((getR .int (partsR L l) i).take k.toNat) (putTo (fun i _ => i) (partsR L l) (List.replicate L.length 0) i.toNat)))]) (fun k => ((getR .int (partsR L l) i).length - k).toNat) (· + 1) 0 (by simp) ?_ ?_
        · cbv
          (simp only [IfP_iff, EqU_iff, Obl_iff, and_true, true_and, inI_iff, decide_eq_true_eq, decide_eq_false_iff_not]; (try simp only [natc, getI_gi, at2_0, at2_1]); (try dsimp only [Ty.den]); try simp only [natc] at *)
          rw [putAll_zero]
        · intro k hk
          have g1 := putAll_next (f := fun _ => i) (p := getR .int (partsR L l) i) (o := putTo (fun i _ => i) (partsR L l) (List.replicate L.length 0) i.toNat) hk.1
          have g2 := putAll_len (f := fun _ => i) (p := (getR .int (partsR L l) i).take k.toNat) (o := putTo (fun i _ => i) (partsR L l) (List.replicate L.length 0) i.toNat)
          have g3 := take_all (l := getR .int (partsR L l) i) (i := k)
          have g4 := fun b => e5 k hi.1 hin2 hk.1 b
          have g5 := e4 hin2
          clear e4 e5 hin hlen
          cbv
          ((try simp only [IfP_iff, and_true, true_and, decide_eq_true_eq, decide_eq_false_iff_not]); (try simp only [natc, getI_gi, at2_0, at2_1]); (try dsimp only [Ty.den]); (try simp only [natc] at *); (repeat' (first | apply And.intro | intro _)))
          all_goals (try (simp only [IfP_iff, EqU_iff, Obl_iff, and_true, true_and, inI_iff, decide_eq_true_eq, decide_eq_false_iff_not]; (try simp only [natc, getI_gi, at2_0, at2_1]); (try dsimp only [Ty.den]); try simp only [natc] at *))
          all_goals ((repeat' (first | apply And.intro | intro _)) <;> first | omega | exact (g1 (by omega)).symm | (rw [e1, g3 (by omega)]; done) | (have := g4 (by omega); omega) | trace_state)
      all_goals (try (simp only [IfP_iff, EqU_iff, Obl_iff, and_true, true_and, inI_iff, decide_eq_true_eq, decide_eq_false_iff_not]; (try simp only [natc, getI_gi, at2_0, at2_1]); (try dsimp only [Ty.den]); try simp only [natc] at *))
      all_goals ((repeat' (first | apply And.intro | intro _)) <;> first | omega | exact e3 (by omega) | trace_state)
  all_goals (try (simp only [IfP_iff, EqU_iff, Obl_iff, and_true, true_and, inI_iff, decide_eq_true_eq, decide_eq_false_iff_not]; (try simp only [natc, getI_gi, at2_0, at2_1]); (try dsimp only [Ty.den]); try simp only [natc] at *))
  all_goals ((repeat' (first | apply And.intro | intro _)) <;> first | omega | (exfalso; rw [hb] at *; simp_all; done) | trace_state)
theorem im_labels (L : List (List Int)) (l : List (Int × Int)) (hL : L.length ≤ 1048576) (hl : l.length ≤ 1048576) (hm : ∀ s ∈ L, s.length ≤ 1048576) : Spec2 Try.prog 42 [.agg (.pr (.sl (.sl .int)) (.sl (.pr .int .int))) fun _ => (L, l)] [] [.ref 0, .bool fun _ => spaceOk L l] [some (.row 3 .int fun _ => labF L l)] := by
  unfold labF
  cases h : spaceOk L l with
  | false =>
    simp only [Bool.false_eq_true, if_false]
    exact im_labels_bad L l hL hl hm h
  | true =>
    simp only [if_true]
    exact im_labels_ok L l hL hl hm h
end Go.Proofs.Ytemdajfcfmefnaa.M

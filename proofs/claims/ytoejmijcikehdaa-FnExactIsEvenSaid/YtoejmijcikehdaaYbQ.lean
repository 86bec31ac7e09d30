/- Parities, in the program: the walk. -/
import Derived.Test.YtoejmijcikehdaaYaQ
import Derived.Test.YtoejmijcikehdaaQg
namespace Go.Proofs.Ytoejmijcikehdaa.M
open Go.RowKit Abs
set_option linter.unusedSimpArgs false
set_option linter.unusedVariables false
set_option maxRecDepth 100000
set_option maxHeartbeats 4000000
theorem im_parity_bad (L : List (List Int)) (l : List (Int × Int)) (hL : L.length ≤ 1048576) (hl : l.length ≤ 1048576) (hm : ∀ s ∈ L, s.length ≤ 1048576) (hb : spaceOk L l = false) : Spec2 Try.prog 77 [.agg (.pr (.sl (.sl .int)) (.sl (.pr .int .int))) fun _ => (L, l)] [] [.ref 0, .bool fun _ => false] [some (.row 3 .int fun _ => [])] := by
  refine fnS [1] [2, 3] Try.func77 rfl (by decide) rfl (by decide) (by kernel_rfl) rfl (by simp [Try.ntmps77]) ?_
  cbv
  repeat' (first | ((first | refine call_q (im_space L l hL hl hm) (by cbv) ?_ | refine call_pure (im_space L l hL hl hm) (by cbv) ?_); cbv; ((try simp only [IfP_iff, and_true, true_and, decide_eq_true_eq, decide_eq_false_iff_not]); (try simp only [natc, getI_gi, at2_0, at2_1]); (try dsimp only [Ty.den]); (try simp only [natc] at *); (repeat' (first | apply And.intro | intro _)))))
  all_goals (try (simp only [IfP_iff, EqU_iff, Obl_iff, and_true, true_and, inI_iff, decide_eq_true_eq, decide_eq_false_iff_not]; (try simp only [natc, getI_gi, at2_0, at2_1]); (try dsimp only [Ty.den]); try simp only [natc] at *))
  all_goals (first | omega | (exfalso; clear hm; grind) | skip)
theorem im_parity_ok (L : List (List Int)) (l : List (Int × Int)) (hL : L.length ≤ 1048576) (hl : l.length ≤ 1048576) (hm : ∀ s ∈ L, s.length ≤ 1048576) (hb : spaceOk L l = true) (r : Nat) (R : List Int) (b : Bool) (hr1 : parOk L l = true → r = 2 ∧ R = parR L l ∧ b = true) (hr2 : parOk L l = false → r = 5 ∧ R = [] ∧ b = false) : Spec2 Try.prog 77 [.agg (.pr (.sl (.sl .int)) (.sl (.pr .int .int))) fun _ => (L, l)] [] [.ref 0, .bool fun _ => b] [some (.row 3 .int fun _ => R)] := by
  have hp := (space_parts hb).2.2.2
  have hn := (space_parts hb).1
  have hps := (parts_ok hp).1
  obtain ⟨n1, n2, n3⟩ := near_ok hp
  have hin := fun i k a b c d => part_in (L := L) (l := l) hp (i := i) (k := k) a b c d
  have hlen : ∀ i : Int, 0 ≤ i → i < ((partsR L l).length : Int) → ((getR .int (partsR L l) i).length : Int) ≤ L.length ∧ 0 < ((getR .int (partsR L l) i).length : Int) := fun i a b => by
    have := (parts_ok hp).2 _ (getR_mem a b)
    have h2 := List.length_pos_iff.2 this.1
    exact ⟨this.2.1, by omega⟩
  have hz := zero_row (n := L.length) (m := ((nearR l L.length).length : Int)) (by rw [n1]; simp)
  have hr : ∀ i : Int, 0 ≤ i → i < L.length → Spec2 Try.prog 69 [.sl (.sl .int) fun _ => nearR l L.length, .int fun _ => i, .fnr 70 fun _ => ofCaps []] [] [.ref 0, .ref 1] [some (.row 3 .int fun _ => queR L l i), some (.row 3 .int fun _ => distR L l i)] := fun i h0 h1 => im_reach (nearR l L.length) (fun _ => true) 70 (fun _ => ofCaps []) i h0 (by omega) (by omega) n2 (fun r hr => Nat.le_trans (n3 r hr) hl) (fun v _ _ => ⟨[], rfl, fun _ => rfl, im_any v⟩)
  have hpl : (parR L l).length = L.length := by rw [parR_eq, putTo_len, List.length_replicate]
  have he := im_each L l 102 (fun _ => ofCaps [.ibox [.sl .int fun _ => parR L l] 0]) (neB (parR L l)) hl fun e hm => ⟨_, rfl, fun _ => rfl, by
    have := (pairs_edges hp).1 e hm
    exact im_par1 e.1 e.2 (parR L l) (by omega) (by omega) (by omega) (by omega) (by omega)⟩
  rw [any_parOk] at he
  cases hc : parOk L l with
  | true =>
    obtain ⟨rfl, rfl, rfl⟩ := hr1 hc
    rw [hc] at he
    refine fnS [2] [2, 3] Try.func77 rfl (by decide) rfl (by decide) (by kernel_rfl) rfl (by simp [Try.ntmps77]) ?_
    cbv
    repeat' (first | ((first | refine call_q (im_space L l hL hl hm) (by cbv) ?_ | refine call_pure (im_space L l hL hl hm) (by cbv) ?_); cbv; ((try simp only [IfP_iff, and_true, true_and, decide_eq_true_eq, decide_eq_false_iff_not]); (try simp only [natc, getI_gi, at2_0, at2_1]); (try dsimp only [Ty.den]); (try simp only [natc] at *); (repeat' (first | apply And.intro | intro _)))) | ((first | refine call_q (im_stepLists L l hL hl hp) (by cbv) ?_ | refine call_pure (im_stepLists L l hL hl hp) (by cbv) ?_); cbv; ((try simp only [IfP_iff, and_true, true_and, decide_eq_true_eq, decide_eq_false_iff_not]); (try simp only [natc, getI_gi, at2_0, at2_1]); (try dsimp only [Ty.den]); (try simp only [natc] at *); (repeat' (first | apply And.intro | intro _)))) | ((first | refine call_q (im_parts L l hL hl hp) (by cbv) ?_ | refine call_pure (im_parts L l hL hl hp) (by cbv) ?_); cbv; ((try simp only [IfP_iff, and_true, true_and, decide_eq_true_eq, decide_eq_false_iff_not]); (try simp only [natc, getI_gi, at2_0, at2_1]); (try dsimp only [Ty.den]); (try simp only [natc] at *); (repeat' (first | apply And.intro | intro _)))))
    rotate_right 1
    · refine loopP (by kernel_rfl) (fun i : Int => 0 ≤ i ∧ i ≤ (partsR L l).length) (fun i => [(24, .int fun _ => i)]) (fun i => [(2, some (.row 3 .int fun _ => putTo (parG L l) (partsR L l) (List.replicate L.length 0) i.toNat))]) (fun i => ((partsR L l).length - i).toNat) (· + 1) 0 (by simp) ?_ ?_
      · cbv
        (simp only [IfP_iff, EqU_iff, Obl_iff, and_true, true_and, inI_iff, decide_eq_true_eq, decide_eq_false_iff_not]; (try simp only [natc, getI_gi, at2_0, at2_1]); (try dsimp only [Ty.den]); try simp only [natc] at *)
        rw [putTo_zero]
        exact hz
      · intro i hi
        have e1 := putTo_next (F := parG L l) (P := partsR L l) (o := List.replicate L.length 0) hi.1
        have e2 := putTo_len (F := parG L l) (P := partsR L l) (o := List.replicate L.length 0) i.toNat
        have e3 : ¬ i < ((partsR L l).length : Int) → putTo (parG L l) (partsR L l) (List.replicate L.length 0) i.toNat = parR L l := fun a => by
          rw [parR_eq, show i.toNat = (partsR L l).length by omega]
        have e4 := hlen i hi.1
        have e5 := hin i
        rw [List.length_replicate] at e2
        cbv
        ((try simp only [IfP_iff, and_true, true_and, decide_eq_true_eq, decide_eq_false_iff_not]); (try simp only [natc, getI_gi, at2_0, at2_1]); (try dsimp only [Ty.den]); (try simp only [natc] at *); (repeat' (first | apply And.intro | intro _)))
        all_goals (try simp only [getI_gi] at *)
        rotate_left 2
        · have hin2 : i < ((partsR L l).length : Int) := by omega
          have g5 := e4 hin2
          have g6 := e5 0 hi.1 hin2 (by omega) (by omega)
          have g7 := dist_ok (i := gi (getR .int (partsR L l) i) 0) hp g6.1 g6.2
          have g8 := g7.1
          ((first | refine call_q (hr (gi (getR .int (partsR L l) i) 0) g6.1 g6.2) (by cbv) ?_ | refine call_pure (hr (gi (getR .int (partsR L l) i) 0) g6.1 g6.2) (by cbv) ?_); cbv; ((try simp only [IfP_iff, and_true, true_and, decide_eq_true_eq, decide_eq_false_iff_not]); (try simp only [natc, getI_gi, at2_0, at2_1]); (try dsimp only [Ty.den]); (try simp only [natc] at *); (repeat' (first | apply And.intro | intro _))))
          refine loopP (by kernel_rfl) (fun k : Int => 0 ≤ k ∧ k ≤ (getR .int (partsR L l) i).length) (fun k => [(38, .int fun _ => k)]) (fun k => [(2, some (.row 3 .int fun _ => putAll (parG L l i) ((getR .int (partsR L l) i).take k.toNat) (putTo (parG L l) (partsR L l) (List.replicate L.length 0) i.toNat)))]) (fun k => ((getR .int (partsR L l) i).length - k).toNat) (· + 1) 0 (by simp) ?_ ?_
          · cbv
            (simp only [IfP_iff, EqU_iff, Obl_iff, and_true, true_and, inI_iff, decide_eq_true_eq, decide_eq_false_iff_not]; (try simp only [natc, getI_gi, at2_0, at2_1]); (try dsimp only [Ty.den]); try simp only [natc] at *)
            rw [putAll_zero]
          · intro k hk
            have g1 := putAll_next (f := parG L l i) (p := getR .int (partsR L l) i) (o := putTo (parG L l) (partsR L l) (List.replicate L.length 0) i.toNat) hk.1
            have g2 := putAll_len (f := parG L l i) (p := (getR .int (partsR L l) i).take k.toNat) (o := putTo (parG L l) (partsR L l) (List.replicate L.length 0) i.toNat)
            have g3 := take_all (l := getR .int (partsR L l) i) (i := k)
            have g4 := fun b => e5 k hi.1 hin2 hk.1 b
            clear e4 e5 hin hlen hr he hr1 hr2 n2 n3 hm
            cbv
            ((try simp only [IfP_iff, and_true, true_and, decide_eq_true_eq, decide_eq_false_iff_not]); (try simp only [natc, getI_gi, at2_0, at2_1]); (try dsimp only [Ty.den]); (try simp only [natc] at *); (repeat' (first | apply And.intro | intro _)))
            all_goals (try (simp only [IfP_iff, EqU_iff, Obl_iff, and_true, true_and, inI_iff, decide_eq_true_eq, decide_eq_false_iff_not]; (try simp only [natc, getI_gi, at2_0, at2_1]); (try dsimp only [Ty.den]); try simp only [natc] at *))
            all_goals ((repeat' (first | apply And.intro | intro _)) <;> first | omega | exact (g1 (by omega)).symm | (rw [e1, g3 (by omega)]; done) | (have := g4 (by omega); omega) | trace_state)
        · rw [e3 (by omega)]
          ((first | refine call_q he (by cbv) ?_ | refine call_pure he (by cbv) ?_); cbv; ((try simp only [IfP_iff, and_true, true_and, decide_eq_true_eq, decide_eq_false_iff_not]); (try simp only [natc, getI_gi, at2_0, at2_1]); (try dsimp only [Ty.den]); (try simp only [natc] at *); (repeat' (first | apply And.intro | intro _))))
          all_goals (try (simp only [IfP_iff, EqU_iff, Obl_iff, and_true, true_and, inI_iff, decide_eq_true_eq, decide_eq_false_iff_not]; (try simp only [natc, getI_gi, at2_0, at2_1]); (try dsimp only [Ty.den]); try simp only [natc] at *))
          all_goals ((repeat' (first | apply And.intro | intro _)) <;> first | omega | exact absurd (by assumption : (!true) = true) (by decide) | exact absurd (by assumption : (!false) = false) (by decide) | trace_state)
        all_goals (try (simp only [IfP_iff, EqU_iff, Obl_iff, and_true, true_and, inI_iff, decide_eq_true_eq, decide_eq_false_iff_not]; (try simp only [natc, getI_gi, at2_0, at2_1]); (try dsimp only [Ty.den]); try simp only [natc] at *))
        all_goals ((repeat' (first | apply And.intro | intro _)) <;> first | omega | (have := e4 (by omega); omega) | trace_state)
    all_goals (try (simp only [IfP_iff, EqU_iff, Obl_iff, and_true, true_and, inI_iff, decide_eq_true_eq, decide_eq_false_iff_not]; (try simp only [natc, getI_gi, at2_0, at2_1]); (try dsimp only [Ty.den]); try simp only [natc] at *))
    all_goals ((repeat' (first | apply And.intro | intro _)) <;> first | omega | (exfalso; rw [hb] at *; simp_all; done) | trace_state)
  | false =>
    obtain ⟨rfl, rfl, rfl⟩ := hr2 hc
    rw [hc] at he
    refine fnS [5] [2, 3] Try.func77 rfl (by decide) rfl (by decide) (by kernel_rfl) rfl (by simp [Try.ntmps77]) ?_
    cbv
    repeat' (first | ((first | refine call_q (im_space L l hL hl hm) (by cbv) ?_ | refine call_pure (im_space L l hL hl hm) (by cbv) ?_); cbv; ((try simp only [IfP_iff, and_true, true_and, decide_eq_true_eq, decide_eq_false_iff_not]); (try simp only [natc, getI_gi, at2_0, at2_1]); (try dsimp only [Ty.den]); (try simp only [natc] at *); (repeat' (first | apply And.intro | intro _)))) | ((first | refine call_q (im_stepLists L l hL hl hp) (by cbv) ?_ | refine call_pure (im_stepLists L l hL hl hp) (by cbv) ?_); cbv; ((try simp only [IfP_iff, and_true, true_and, decide_eq_true_eq, decide_eq_false_iff_not]); (try simp only [natc, getI_gi, at2_0, at2_1]); (try dsimp only [Ty.den]); (try simp only [natc] at *); (repeat' (first | apply And.intro | intro _)))) | ((first | refine call_q (im_parts L l hL hl hp) (by cbv) ?_ | refine call_pure (im_parts L l hL hl hp) (by cbv) ?_); cbv; ((try simp only [IfP_iff, and_true, true_and, decide_eq_true_eq, decide_eq_false_iff_not]); (try simp only [natc, getI_gi, at2_0, at2_1]); (try dsimp only [Ty.den]); (try simp only [natc] at *); (repeat' (first | apply And.intro | intro _)))))
    rotate_right 1
    · refine loopP (by kernel_rfl) (fun i : Int => 0 ≤ i ∧ i ≤ (partsR L l).length) (fun i => [(24, .int fun _ => i)]) (fun i => [(2, some (.row 3 .int fun _ => putTo (parG L l) (partsR L l) (List.replicate L.length 0) i.toNat))]) (fun i => ((partsR L l).length - i).toNat) (· + 1) 0 (by simp) ?_ ?_
      · cbv
        (simp only [IfP_iff, EqU_iff, Obl_iff, and_true, true_and, inI_iff, decide_eq_true_eq, decide_eq_false_iff_not]; (try simp only [natc, getI_gi, at2_0, at2_1]); (try dsimp only [Ty.den]); try simp only [natc] at *)
        rw [putTo_zero]
        exact hz
      · intro i hi
        have e1 := putTo_next (F := parG L l) (P := partsR L l) (o := List.replicate L.length 0) hi.1
        have e2 := putTo_len (F := parG L l) (P := partsR L l) (o := List.replicate L.length 0) i.toNat
        have e3 : ¬ i < ((partsR L l).length : Int) → putTo (parG L l) (partsR L l) (List.replicate L.length 0) i.toNat = parR L l := fun a => by
          rw [parR_eq, show i.toNat = (partsR L l).length by omega]
        have e4 := hlen i hi.1
        have e5 := hin i
        rw [List.length_replicate] at e2
        cbv
        ((try simp only [IfP_iff, and_true, true_and, decide_eq_true_eq, decide_eq_false_iff_not]); (try simp only [natc, getI_gi, at2_0, at2_1]); (try dsimp only [Ty.den]); (try simp only [natc] at *); (repeat' (first | apply And.intro | intro _)))
        all_goals (try simp only [getI_gi] at *)
        rotate_left 2
        · have hin2 : i < ((partsR L l).length : Int) := by omega
          have g5 := e4 hin2
          have g6 := e5 0 hi.1 hin2 (by omega) (by omega)
          have g7 := dist_ok (i := gi (getR .int (partsR L l) i) 0) hp g6.1 g6.2
          have g8 := g7.1
          ((first | refine call_q (hr (gi (getR .int (partsR L l) i) 0) g6.1 g6.2) (by cbv) ?_ | refine call_pure (hr (gi (getR .int (partsR L l) i) 0) g6.1 g6.2) (by cbv) ?_); cbv; ((try simp only [IfP_iff, and_true, true_and, decide_eq_true_eq, decide_eq_false_iff_not]); (try simp only [natc, getI_gi, at2_0, at2_1]); (try dsimp only [Ty.den]); (try simp only [natc] at *); (repeat' (first | apply And.intro | intro _))))
          refine loopP (by kernel_rfl) (fun k : Int => 0 ≤ k ∧ k ≤ (getR .int (partsR L l) i).length) (fun k => [(38, .int fun _ => k)]) (fun k => [(2, some (.row 3 .int fun _ => putAll (parG L l i) ((getR .int (partsR L l) i).take k.toNat) (putTo (parG L l) (partsR L l) (List.replicate L.length 0) i.toNat)))]) (fun k => ((getR .int (partsR L l) i).length - k).toNat) (· + 1) 0 (by simp) ?_ ?_
          · cbv
            (simp only [IfP_iff, EqU_iff, Obl_iff, and_true, true_and, inI_iff, decide_eq_true_eq, decide_eq_false_iff_not]; (try simp only [natc, getI_gi, at2_0, at2_1]); (try dsimp only [Ty.den]); try simp only [natc] at *)
            rw [putAll_zero]
          · intro k hk
            have g1 := putAll_next (f := parG L l i) (p := getR .int (partsR L l) i) (o := putTo (parG L l) (partsR L l) (List.replicate L.length 0) i.toNat) hk.1
            have g2 := putAll_len (f := parG L l i) (p := (getR .int (partsR L l) i).take k.toNat) (o := putTo (parG L l) (partsR L l) (List.replicate L.length 0) i.toNat)
            have g3 := take_all (l := getR .int (partsR L l) i) (i := k)
            have g4 := fun b => e5 k hi.1 hin2 hk.1 b
            clear e4 e5 hin hlen hr he hr1 hr2 n2 n3 hm
            cbv
            ((try simp only [IfP_iff, and_true, true_and, decide_eq_true_eq, decide_eq_false_iff_not]); (try simp only [natc, getI_gi, at2_0, at2_1]); (try dsimp only [Ty.den]); (try simp only [natc] at *); (repeat' (first | apply And.intro | intro _)))
            all_goals (try (simp only [IfP_iff, EqU_iff, Obl_iff, and_true, true_and, inI_iff, decide_eq_true_eq, decide_eq_false_iff_not]; (try simp only [natc, getI_gi, at2_0, at2_1]); (try dsimp only [Ty.den]); try simp only [natc] at *))
            all_goals ((repeat' (first | apply And.intro | intro _)) <;> first | omega | exact (g1 (by omega)).symm | (rw [e1, g3 (by omega)]; done) | (have := g4 (by omega); omega) | trace_state)
        · rw [e3 (by omega)]
          ((first | refine call_q he (by cbv) ?_ | refine call_pure he (by cbv) ?_); cbv; ((try simp only [IfP_iff, and_true, true_and, decide_eq_true_eq, decide_eq_false_iff_not]); (try simp only [natc, getI_gi, at2_0, at2_1]); (try dsimp only [Ty.den]); (try simp only [natc] at *); (repeat' (first | apply And.intro | intro _))))
          all_goals (try (simp only [IfP_iff, EqU_iff, Obl_iff, and_true, true_and, inI_iff, decide_eq_true_eq, decide_eq_false_iff_not]; (try simp only [natc, getI_gi, at2_0, at2_1]); (try dsimp only [Ty.den]); try simp only [natc] at *))
          all_goals ((repeat' (first | apply And.intro | intro _)) <;> first | omega | exact absurd (by assumption : (!true) = true) (by decide) | exact absurd (by assumption : (!false) = false) (by decide) | trace_state)
        all_goals (try (simp only [IfP_iff, EqU_iff, Obl_iff, and_true, true_and, inI_iff, decide_eq_true_eq, decide_eq_false_iff_not]; (try simp only [natc, getI_gi, at2_0, at2_1]); (try dsimp only [Ty.den]); try simp only [natc] at *))
        all_goals ((repeat' (first | apply And.intro | intro _)) <;> first | omega | (have := e4 (by omega); omega) | trace_state)
    all_goals (try (simp only [IfP_iff, EqU_iff, Obl_iff, and_true, true_and, inI_iff, decide_eq_true_eq, decide_eq_false_iff_not]; (try simp only [natc, getI_gi, at2_0, at2_1]); (try dsimp only [Ty.den]); try simp only [natc] at *))
    all_goals ((repeat' (first | apply And.intro | intro _)) <;> first | omega | (exfalso; rw [hb] at *; simp_all; done) | trace_state)
def parB (L : List (List Int)) (l : List (Int × Int)) : Bool := spaceOk L l && parOk L l
def parF (L : List (List Int)) (l : List (Int × Int)) : List Int := if parB L l = true then parR L l else []
theorem im_parity (L : List (List Int)) (l : List (Int × Int)) (hL : L.length ≤ 1048576) (hl : l.length ≤ 1048576) (hm : ∀ s ∈ L, s.length ≤ 1048576) : Spec2 Try.prog 77 [.agg (.pr (.sl (.sl .int)) (.sl (.pr .int .int))) fun _ => (L, l)] [] [.ref 0, .bool fun _ => parB L l] [some (.row 3 .int fun _ => parF L l)] := by
  unfold parF
  cases h : spaceOk L l with
  | false =>
    have e : parB L l = false := by unfold parB; rw [h]; rfl
    rw [e, if_neg (by simp)]
    exact im_parity_bad L l hL hl hm h
  | true =>
    have e : parB L l = parOk L l := by unfold parB; rw [h]; rfl
    rw [e]
    cases hc : parOk L l with
    | true => exact im_parity_ok L l hL hl hm h 2 _ _ (fun _ => ⟨rfl, rfl, rfl⟩) (fun a => by rw [hc] at a; cases a)
    | false => exact im_parity_ok L l hL hl hm h 5 _ _ (fun a => by rw [hc] at a; cases a) (fun _ => ⟨rfl, rfl, rfl⟩)
end Go.Proofs.Ytoejmijcikehdaa.M

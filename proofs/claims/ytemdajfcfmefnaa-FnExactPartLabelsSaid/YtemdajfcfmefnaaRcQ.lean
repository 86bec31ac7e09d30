/- The search by breadth, in the program. -/
import Derived.Test.YtemdajfcfmefnaaBfQ
import Derived.Test.YtemdajfcfmefnaaRpQ
import Derived.Test.YtemdajfcfmefnaaQg
namespace Go.Proofs.Ytemdajfcfmefnaa.M
open Go.RowKit Abs
set_option linter.unusedSimpArgs false
set_option linter.unusedVariables false
set_option maxRecDepth 100000
set_option maxHeartbeats 4000000
theorem im_reach (near : List (List Int)) (q : Int → Bool) (f : FuncId) (c : Unit → CapR) (i : Int) (h0 : 0 ≤ i) (h1 : i < near.length) (hn : near.length ≤ 1048576) (hi : near_in near.length near) (hr : ∀ r ∈ near, r.length ≤ 1048576)
    (hf : ∀ v : Int, 0 ≤ v → v < near.length → Fn1 Try.prog tab f c [.int fun _ => v] [.bool fun _ => q v]) :
    Spec2 Try.prog 64 [.sl (.sl .int) fun _ => near, .int fun _ => i, .fnr f c] [] [.ref 0, .ref 1] [some (.row 3 .int fun _ => (search near q i).2), some (.row 3 .int fun _ => (search near q i).1)] := by
  have hrow : ∀ p : Int, (getR .int near p).length ≤ 1048576 := fun p => by
    unfold getR
    rw [List.getD_eq_getElem?_getD]
    cases e : near[p.toNat]? with
    | none => simp
    | some r => exact hr r (List.mem_of_getElem? e)
  have hrow' : ∀ p : Int, getI (.sl .int) near p = getR .int near p := fun _ => rfl
  refine fnS [2, 1] [6, 7] Try.func64 rfl (by decide) rfl (by decide) (by kernel_rfl) rfl (by simp [Try.ntmps64]) ?_
  cbv
  ((first | refine call_q (go_repeat (-1) near.length (by omega) (by omega)) (by cbv) ?_ | refine call_pure (go_repeat (-1) near.length (by omega) (by omega)) (by cbv) ?_); cbv; ((try simp only [IfP_iff, and_true, true_and, decide_eq_true_eq, decide_eq_false_iff_not]); (try simp only [natc, getI_gi, at2_0, at2_1]); (try dsimp only [Ty.den]); (try simp only [natc] at *); (repeat' (first | apply And.intro | intro _))))
  rotate_right 1
  · refine loopP (by kernel_rfl) (fun x : Int × BS => BInv near q (search near q i) x.1 x.2) (fun x => [(10, .int fun _ => x.1), (9, .ref 2), (22, .junk)]) (fun x => [(1, some (.row 3 .int fun _ => x.2.1)), (2, some (.row 3 .int fun _ => x.2.2))]) (fun x => (near.length - x.1).toNat) (fun x => (x.1 + 1, level near q x.1 x.2)) (0, start near.length i) (start_inv h0 h1) ?_ ?_
    · cbv
      (simp only [IfP_iff, EqU_iff, Obl_iff, and_true, true_and, inI_iff, decide_eq_true_eq, decide_eq_false_iff_not]; (try simp only [natc, getI_gi, at2_0, at2_1]); (try dsimp only [Ty.den]); try simp only [natc] at *)
      simp [start, setI]
    · rintro ⟨n, D, Q⟩ h
      have hlo := h.lo
      have hhi := h.hi
      have hc := h.ok.cnt
      have hlen := h.ok.len
      simp only at hlo hhi hc hlen
      have hd : ¬ n < (Q.length : Int) → (search near q i).2 = Q ∧ (search near q i).1 = D := fun a => by rw [h.done a]; exact ⟨rfl, rfl⟩
      have hpl : n < (Q.length : Int) → 0 ≤ gi Q n ∧ gi Q n < near.length := fun a => (h.place a).1
      cbv
      ((try simp only [IfP_iff, and_true, true_and, decide_eq_true_eq, decide_eq_false_iff_not]); (try simp only [natc, getI_gi, at2_0, at2_1]); (try dsimp only [Ty.den]); (try simp only [natc] at *); (repeat' (first | apply And.intro | intro _)))
      rotate_left 2
      · have hq : n < (Q.length : Int) := by assumption
        obtain ⟨sA, sB, ⟨a0, b0⟩, u1, u2, u3, u4, u5, u6, u7⟩ := rounds h hi hq
        refine loopP (by kernel_rfl) (fun k : Int => 0 ≤ k ∧ k ≤ (getI (.sl .int) near (gi Q n)).length) (fun k => [(38, .int fun _ => k), (9, .ref 2), (29, .junk), (24, .junk), (31, .junk)]) (fun k => [(1, some (.row 3 .int fun _ => sA k)), (2, some (.row 3 .int fun _ => sB k))]) (fun k => ((getI (.sl .int) near (gi Q n)).length - k).toNat) (· + 1) 0 (by simp) ?_ ?_
        · cbv
          (simp only [IfP_iff, EqU_iff, Obl_iff, and_true, true_and, inI_iff, decide_eq_true_eq, decide_eq_false_iff_not]; (try simp only [natc, getI_gi, at2_0, at2_1]); (try dsimp only [Ty.den]); try simp only [natc] at *)
          simp [a0, b0]
        · intro k hk
          have v1 := u1 k
          have v2 := u2 k
          have v3 := u3 k
          have v4 := u4 k
          have v5 := u5 k
          have v6 : (getI (.sl .int) near (gi Q n)).length ≤ 1048576 := hrow (gi Q n)
          have v8 : 0 ≤ k → k < ((getI (.sl .int) near (gi Q n)).length : Int) → Fn1 Try.prog tab f c [.int fun _ => getI .int (getI (.sl .int) near (getI .int Q n)) k] [.bool fun _ => q (gi (getI (.sl .int) near (gi Q n)) k)] := fun a b => hf _ (u2 k a b).1 (u2 k a b).2
          have v9 := h.next hi hq
          clear u1 u2 u3 u4 u5 hf hr hrow hrow' hi h hd hpl h0 h1
          cbv
          ((try simp only [IfP_iff, and_true, true_and, decide_eq_true_eq, decide_eq_false_iff_not]); (try simp only [natc, getI_gi, at2_0, at2_1]); (try dsimp only [Ty.den]); (try simp only [natc] at *); (repeat' (first | apply And.intro | intro _)))
          repeat' (first | ((first | refine call_fnq (v8 hk.1 (by assumption)) rfl (by cbv) ?_ | refine call_fn (v8 hk.1 (by assumption)) rfl (by cbv) ?_); cbv; ((try simp only [IfP_iff, and_true, true_and, decide_eq_true_eq, decide_eq_false_iff_not]); (try simp only [natc, getI_gi, at2_0, at2_1]); (try dsimp only [Ty.den]); (try simp only [natc] at *); (repeat' (first | apply And.intro | intro _)))))
          all_goals (try (simp only [IfP_iff, EqU_iff, Obl_iff, and_true, true_and, inI_iff, decide_eq_true_eq, decide_eq_false_iff_not]; (try simp only [natc, getI_gi, at2_0, at2_1]); (try dsimp only [Ty.den]); try simp only [natc] at *))
          all_goals ((repeat' (first | apply And.intro | intro _)) <;> first | omega | exact v9 | (simp only [List.length_append, List.length_cons, List.length_nil]; omega) | (rw [(v3 hk.1 (by assumption) (by assumption) (by assumption)).1, v1.2.1]; done) | (rw [(v3 hk.1 (by assumption) (by assumption) (by assumption)).1, ← v1.2.1]; done) | (rw [(v3 hk.1 (by assumption) (by assumption) (by assumption)).2]; done) | (rw [(v4 hk.1 (by assumption) (fun c => absurd c.1 (by assumption))).1]; done) | (rw [(v4 hk.1 (by assumption) (fun c => absurd c.1 (by assumption))).2]; done) | (rw [(v4 hk.1 (by assumption) (fun c => by simp_all)).1]; done) | (rw [(v4 hk.1 (by assumption) (fun c => by simp_all)).2]; done) | (rw [(v5 (by assumption)).1]; done) | (rw [(v5 (by assumption)).2]; done) | trace_state)
      all_goals (try (simp only [IfP_iff, EqU_iff, Obl_iff, and_true, true_and, inI_iff, decide_eq_true_eq, decide_eq_false_iff_not]; (try simp only [natc, getI_gi, at2_0, at2_1]); (try dsimp only [Ty.den]); try simp only [natc] at *))
      all_goals ((repeat' (first | apply And.intro | intro _)) <;> first | omega | (simp only [List.length_append, List.length_cons, List.length_nil]; omega) | grind)
  all_goals (try (simp only [IfP_iff, EqU_iff, Obl_iff, and_true, true_and, inI_iff, decide_eq_true_eq, decide_eq_false_iff_not]; (try simp only [natc, getI_gi, at2_0, at2_1]); (try dsimp only [Ty.den]); try simp only [natc] at *))
  all_goals ((repeat' (first | apply And.intro | intro _)) <;> first | omega | (simp; omega) | grind)
theorem sp_spread (near : List (List Int)) (i : Int) (h0 : 0 ≤ i) (h1 : i < near.length) (hn : near.length ≤ 1048576) (hi : near_in near.length near) (hr : ∀ r ∈ near, r.length ≤ 1048576) :
    Spec2 Try.prog 70 [.sl (.sl .int) fun _ => near, .int fun _ => i] [] [.ref 0] [some (.row 3 .int fun _ => (search near (fun _ => true) i).1)] := by
  have hrow : ∀ p : Int, (getI (.sl .int) near p).length ≤ 1048576 := fun p => by
    show (near.getD p.toNat []).length ≤ _
    rw [List.getD_eq_getElem?_getD]
    cases e : near[p.toNat]? with
    | none => simp
    | some r => exact hr r (List.mem_of_getElem? e)
  refine fnS [0] [4] Try.func70 rfl (by decide) rfl (by decide) (by kernel_rfl) rfl (by simp [Try.ntmps70]) ?_
  cbv
  ((try simp only [IfP_iff, and_true, true_and, decide_eq_true_eq, decide_eq_false_iff_not]); (try simp only [natc, getI_gi, at2_0, at2_1]); (try dsimp only [Ty.den]); (try simp only [natc] at *); (repeat' (first | apply And.intro | intro _)))
  · (simp only [IfP_iff, EqU_iff, Obl_iff, and_true, true_and, inI_iff, decide_eq_true_eq, decide_eq_false_iff_not]; (try simp only [natc, getI_gi, at2_0, at2_1]); (try dsimp only [Ty.den]); try simp only [natc] at *)
    omega
  refine loopP (by kernel_rfl) (fun k : Int => 0 ≤ k ∧ k ≤ near.length) (fun k => [(6, .int fun _ => k)]) (fun k => [(0, some (.row 3 .int fun _ => rpn near.length k))]) (fun k => (near.length - k).toNat) (· + 1) 0 (by simp) ?_ ?_
  · have g1 := rpn_zero near.length
    have gz : @Eq (List Int) (List.replicate ((near.length : Int)).toNat (zden Ty.int)) (List.replicate near.length 0) := by rw [Int.toNat_natCast]; rfl
    cbv
    (simp only [IfP_iff, EqU_iff, Obl_iff, and_true, true_and, inI_iff, decide_eq_true_eq, decide_eq_false_iff_not]; (try simp only [natc, getI_gi, at2_0, at2_1]); (try dsimp only [Ty.den]); try simp only [natc] at *)
    simp only [gz, g1]
  · intro k hk
    have g1 := rpn_len (n := near.length) (k := k)
    have g2 := rpn_set (n := near.length) (k := k) hk.1
    have g3 : ¬ k < (near.length : Int) → rpn near.length k = List.replicate near.length (-1) := fun a => by have : k = near.length := by omega
                                                                                                             subst this; exact rpn_end _
    cbv
    ((try simp only [IfP_iff, and_true, true_and, decide_eq_true_eq, decide_eq_false_iff_not]); (try simp only [natc, getI_gi, at2_0, at2_1]); (try dsimp only [Ty.den]); (try simp only [natc] at *); (repeat' (first | apply And.intro | intro _)))
    rotate_right 1
    · refine loopP (by kernel_rfl) (fun x : Int × BS => BInv near (fun _ => true) (search near (fun _ => true) i) x.1 x.2) (fun x => [(8, .int fun _ => x.1), (7, .ref 1), (24, .junk)]) (fun x => [(0, some (.row 3 .int fun _ => x.2.1)), (1, some (.row 3 .int fun _ => x.2.2))]) (fun x => (near.length - x.1).toNat) (fun x => (x.1 + 1, level near (fun _ => true) x.1 x.2)) (0, start near.length i) (start_inv h0 h1) ?_ ?_
      · have e := g3 (by have := g1 hk.2; omega)
        cbv
        (simp only [IfP_iff, EqU_iff, Obl_iff, and_true, true_and, inI_iff, decide_eq_true_eq, decide_eq_false_iff_not]; (try simp only [natc, getI_gi, at2_0, at2_1]); (try dsimp only [Ty.den]); try simp only [natc] at *)
        simp [start, setI, e]
      · clear g1 g2 g3
        rintro ⟨n, D, Q⟩ h
        have hlo := h.lo
        have hhi := h.hi
        have hc := h.ok.cnt
        have hlen := h.ok.len
        simp only at hlo hhi hc hlen
        have hd : ¬ n < (Q.length : Int) → (search near (fun _ => true) i).2 = Q ∧ (search near (fun _ => true) i).1 = D := fun a => by rw [h.done a]; exact ⟨rfl, rfl⟩
        have hpl : n < (Q.length : Int) → 0 ≤ gi Q n ∧ gi Q n < near.length := fun a => (h.place a).1
        cbv
        ((try simp only [IfP_iff, and_true, true_and, decide_eq_true_eq, decide_eq_false_iff_not]); (try simp only [natc, getI_gi, at2_0, at2_1]); (try dsimp only [Ty.den]); (try simp only [natc] at *); (repeat' (first | apply And.intro | intro _)))
        rotate_left 2
        · have hq : n < (Q.length : Int) := by assumption
          obtain ⟨sA, sB, ⟨a0, b0⟩, u1, u2, u3, u4, u5, u6, u7⟩ := rounds h hi hq
          refine loopP (by kernel_rfl) (fun k : Int => 0 ≤ k ∧ k ≤ (getI (.sl .int) near (gi Q n)).length) (fun k => [(10, .int fun _ => k), (7, .ref 1), (29, .junk), (35, .junk), (37, .junk)]) (fun k => [(0, some (.row 3 .int fun _ => sA k)), (1, some (.row 3 .int fun _ => sB k))]) (fun k => ((getI (.sl .int) near (gi Q n)).length - k).toNat) (· + 1) 0 (by simp) ?_ ?_
          · cbv
            (simp only [IfP_iff, EqU_iff, Obl_iff, and_true, true_and, inI_iff, decide_eq_true_eq, decide_eq_false_iff_not]; (try simp only [natc, getI_gi, at2_0, at2_1]); (try dsimp only [Ty.den]); try simp only [natc] at *)
            simp [a0, b0]
          · intro k hk
            have v1 := u1 k
            have v2 := u2 k
            have v3 := u3 k
            have v4 := u4 k
            have v5 := u5 k
            have v6 := hrow (gi Q n)
            have v9 := h.next hi hq
            clear u1 u2 u3 u4 u5 hr hrow hi h hd hpl h0 h1
            cbv
            ((try simp only [IfP_iff, and_true, true_and, decide_eq_true_eq, decide_eq_false_iff_not]); (try simp only [natc, getI_gi, at2_0, at2_1]); (try dsimp only [Ty.den]); (try simp only [natc] at *); (repeat' (first | apply And.intro | intro _)))
            all_goals (try (simp only [IfP_iff, EqU_iff, Obl_iff, and_true, true_and, inI_iff, decide_eq_true_eq, decide_eq_false_iff_not]; (try simp only [natc, getI_gi, at2_0, at2_1]); (try dsimp only [Ty.den]); try simp only [natc] at *))
            all_goals ((repeat' (first | apply And.intro | intro _)) <;> (try simp only [v1.2.2.2.2, v1.2.1]) <;> first | omega | exact v9 | (simp only [List.length_append, List.length_cons, List.length_nil]; omega) | (rw [(v3 hk.1 (by assumption) (by assumption) (by first | trivial | rfl)).1, v1.2.1]; done) | (rw [(v3 hk.1 (by assumption) (by assumption) (by first | trivial | rfl)).1, ← v1.2.1]; done) | (rw [(v3 hk.1 (by assumption) (by assumption) (by first | trivial | rfl)).2]; done) | (rw [(v4 hk.1 (by assumption) (fun c => absurd c.1 (by assumption))).1]; done) | (rw [(v4 hk.1 (by assumption) (fun c => absurd c.1 (by assumption))).2]; done) | (rw [(v4 hk.1 (by assumption) (fun c => by simp_all)).1]; done) | (rw [(v4 hk.1 (by assumption) (fun c => by simp_all)).2]; done) | (rw [(v5 (by assumption)).1]; done) | (rw [(v5 (by assumption)).2]; done) | trace_state)
        all_goals (try (simp only [IfP_iff, EqU_iff, Obl_iff, and_true, true_and, inI_iff, decide_eq_true_eq, decide_eq_false_iff_not]; (try simp only [natc, getI_gi, at2_0, at2_1]); (try dsimp only [Ty.den]); try simp only [natc] at *))
        all_goals ((repeat' (first | apply And.intro | intro _)) <;> first | omega | (simp only [List.length_append, List.length_cons, List.length_nil]; omega) | grind)
    all_goals (try (simp only [IfP_iff, EqU_iff, Obl_iff, and_true, true_and, inI_iff, decide_eq_true_eq, decide_eq_false_iff_not]; (try simp only [natc, getI_gi, at2_0, at2_1]); (try dsimp only [Ty.den]); try simp only [natc] at *))
    all_goals ((repeat' (first | apply And.intro | intro _)) <;> first | omega | (simp only [List.length_append, List.length_cons, List.length_nil]; omega) | grind)
end Go.Proofs.Ytemdajfcfmefnaa.M

/- Permutations as structs of a number and an array, in the program. -/
import Derived.Test.YtoejmijcikehdaaVcQ
import Derived.Test.YtoejmijcikehdaaRgQ
import Derived.Test.YtoejmijcikehdaaSpQ
import Derived.Test.YtoejmijcikehdaaGlQ
import Derived.Test.YtoejmijcikehdaaLpQ
import Derived.Test.YtoejmijcikehdaaDfQ
import Derived.Test.YtoejmijcikehdaaQg
namespace Go.Proofs.Ytoejmijcikehdaa.M
open Go.RowKit Abs
set_option linter.unusedSimpArgs false
set_option linter.unusedVariables false
set_option maxRecDepth 100000
set_option maxHeartbeats 4000000
theorem consV_at {n : Int} {l : List Int} {v : Int} (h : 0 ≤ v) : gi (n :: l) (1 + v) = gi l v := by
  unfold gi
  rw [show (1 + v).toNat = v.toNat + 1 by omega]
  rfl
theorem consV_set {n y : Int} {l : List Int} {v : Int} (h : 0 ≤ v) : setI (n :: l) (1 + v) y = n :: setI l v y := by
  unfold setI
  rw [show (1 + v).toNat = v.toNat + 1 by omega, List.set_cons_succ]
def permV (p : List Int) : Int × List Int := if permB p = true then ((p.length : Int), padO p) else (0, List.replicate 8 0)
theorem padO_copy {n : Int} {r : List Int} (h : r.length ≤ 8) : cpy (n :: List.replicate 8 0) r 1 (1 + 8) = n :: padO r := by
  unfold cpy padO
  have e : (List.take ((1 : Int) + 8 - 1).toNat r) = r := List.take_of_length_le (by show r.length ≤ 8; exact h)
  rw [e]
  show [n] ++ r ++ List.drop (min (1 + r.length) 9) (n :: List.replicate 8 0) = _
  rw [show min (1 + r.length) 9 = r.length + 1 by omega, List.drop_succ_cons, List.drop_replicate]
  rfl
theorem im_permOf (r : List Int) (hr : r.length ≤ 1048576) : Spec2 Try.prog 57 [.sl .int fun _ => r] [] [.agg (.pr .int (.ar 7 .int)) fun _ => permV r, .bool fun _ => permB r] [] := by
  have h9 : permV r = _ := rfl
  conv at h9 => rhs; unfold permV
  have hq := im_perm r hr
  cases hb : permB r with
  | false =>
    rw [hb] at hq
    rw [hb, if_neg (by decide)] at h9
    rw [h9]
    refine fnG [.csq 2 7 70, .tmp 3] Try.func57 rfl (by decide) rfl (by kernel_rfl) (.inr (.inl rfl)) (by kernel_rfl) (Nat.zero_le _) (by simp [Try.ntmps57]) ?_
    cbv
    ((try simp only [IfP_iff, and_true, true_and, decide_eq_true_eq, decide_eq_false_iff_not]); (try simp only [natc, getI_gi, at2_0, at2_1]); (try dsimp only [Ty.den]); (try simp only [natc] at *); (repeat' (first | apply And.intro | intro _)))
    all_goals (repeat' (first | ((first | refine call_q hq (by cbv) ?_ | refine call_pure hq (by cbv) ?_); cbv; ((try simp only [IfP_iff, and_true, true_and, decide_eq_true_eq, decide_eq_false_iff_not]); (try simp only [natc, getI_gi, at2_0, at2_1]); (try dsimp only [Ty.den]); (try simp only [natc] at *); (repeat' (first | apply And.intro | intro _))))))
    all_goals (try (exact absurd (by assumption : (!false) = false) (by decide)))
    refine EndG.plain [] ?_
    cbv
    (simp only [IfP_iff, EqU_iff, Obl_iff, and_true, true_and, inI_iff, decide_eq_true_eq, decide_eq_false_iff_not]; (try simp only [natc, getI_gi, at2_0, at2_1]); (try dsimp only [Ty.den]); try simp only [natc] at *)
    all_goals (first | exact ⟨rfl, rfl⟩ | rfl)
  | true =>
    rw [hb] at hq
    rw [hb, if_pos rfl] at h9
    rw [h9]
    have hl := (perm_ok hb).1
    refine fnG [.csq 2 7 70, .tmp 3] Try.func57 rfl (by decide) rfl (by kernel_rfl) (.inr (.inl rfl)) (by kernel_rfl) (Nat.zero_le _) (by simp [Try.ntmps57]) ?_
    cbv
    ((try simp only [IfP_iff, and_true, true_and, decide_eq_true_eq, decide_eq_false_iff_not]); (try simp only [natc, getI_gi, at2_0, at2_1]); (try dsimp only [Ty.den]); (try simp only [natc] at *); (repeat' (first | apply And.intro | intro _)))
    all_goals (repeat' (first | ((first | refine call_q hq (by cbv) ?_ | refine call_pure hq (by cbv) ?_); cbv; ((try simp only [IfP_iff, and_true, true_and, decide_eq_true_eq, decide_eq_false_iff_not]); (try simp only [natc, getI_gi, at2_0, at2_1]); (try dsimp only [Ty.den]); (try simp only [natc] at *); (repeat' (first | apply And.intro | intro _))))))
    all_goals (try (exact absurd (by assumption : (!true) = true) (by decide)))
    all_goals (try (show Obl _; (simp only [IfP_iff, EqU_iff, Obl_iff, and_true, true_and, inI_iff, decide_eq_true_eq, decide_eq_false_iff_not]; (try simp only [natc, getI_gi, at2_0, at2_1]); (try dsimp only [Ty.den]); try simp only [natc] at *); first | rfl | decide))
    refine EndG.plain [] ?_
    cbv
    (simp only [IfP_iff, EqU_iff, Obl_iff, and_true, true_and, inI_iff, decide_eq_true_eq, decide_eq_false_iff_not]; (try simp only [natc, getI_gi, at2_0, at2_1]); (try dsimp only [Ty.den]); try simp only [natc] at *)
    have e := padO_copy (n := (r.length : Int)) hl
    show (gi (gi (cpy ((r.length : Int) :: List.replicate 8 0) r 1 (1 + 8)) 0 :: List.drop 1 (cpy ((r.length : Int) :: List.replicate 8 0) r 1 (1 + 8))) 0, List.drop 1 (gi (cpy ((r.length : Int) :: List.replicate 8 0) r 1 (1 + 8)) 0 :: List.drop 1 (cpy ((r.length : Int) :: List.replicate 8 0) r 1 (1 + 8)))) = ((r.length : Int), padO r)
    rw [e]
    rfl
theorem subO_cons {n k : Int} {l : List Int} (h0 : 0 ≤ k) : subL (n :: l) 1 (1 + k) = l.take k.toNat := by
  unfold subL
  rw [show (1 + k).toNat = k.toNat + 1 by omega, List.take_succ_cons]
  rfl
theorem im_permList (n : Int) (l : List Int) (hl : l.length = 8) (h0 : 0 ≤ n) (h1 : n ≤ 8) : Spec2 Try.prog 64 [.agg (.pr .int (.ar 7 .int)) fun _ => (n, l)] [] [.ref 0] [some (.row 3 .int fun _ => l.take n.toNat)] := by
  have e0 : gi (n :: l) ((0 : Nat) : Int) = n := rfl
  have e1 : subL (n :: l) ((1 : Nat) : Int) (((1 : Nat) : Int) + gi (n :: l) ((0 : Nat) : Int)) = l.take n.toNat := subO_cons h0
  have e2 : (subL (n :: l) ((1 : Nat) : Int) (((1 : Nat) : Int) + gi (n :: l) ((0 : Nat) : Int))).length ≤ 1048576 := by rw [e1, List.length_take]; omega
  have e3 : (((n :: l).length : Nat) : Int) = 9 := by rw [List.length_cons, hl]; rfl
  refine fnS [1] [2] Try.func64 rfl (by decide) rfl (by decide) (by kernel_rfl) rfl (by simp [Try.ntmps64]) ?_
  cbv
  ((try simp only [IfP_iff, and_true, true_and, decide_eq_true_eq, decide_eq_false_iff_not]); (try simp only [natc, getI_gi, at2_0, at2_1]); (try dsimp only [Ty.den]); (try simp only [natc] at *); (repeat' (first | apply And.intro | intro _)))
  all_goals (repeat' (first | ((first | refine call_q (go_clone _ e2) (by cbv) ?_ | refine call_pure (go_clone _ e2) (by cbv) ?_); cbv; ((try simp only [IfP_iff, and_true, true_and, decide_eq_true_eq, decide_eq_false_iff_not]); (try simp only [natc, getI_gi, at2_0, at2_1]); (try dsimp only [Ty.den]); (try simp only [natc] at *); (repeat' (first | apply And.intro | intro _))))))
  all_goals (try (simp only [IfP_iff, EqU_iff, Obl_iff, and_true, true_and, inI_iff, decide_eq_true_eq, decide_eq_false_iff_not]; (try simp only [natc, getI_gi, at2_0, at2_1]); (try dsimp only [Ty.den]); try simp only [natc] at *))
  · rw [e0, e3]
    exact ⟨h0, h1, by decide⟩
  · exact e1
theorem im_permPlace (n x : Int) (l : List Int) (hl : l.length = 8) (h0 : 0 ≤ n) (h1 : n ≤ 8) : Spec2 Try.prog 58 [.agg (.pr .int (.ar 7 .int)) fun _ => (n, l), .int fun _ => x] [] [.int fun _ => findI (l.take n.toNat) fun y => decide (x = y)] [] := by
  have e0 : gi (n :: l) ((0 : Nat) : Int) = n := rfl
  have e1 : subL (n :: l) ((1 : Nat) : Int) (((1 : Nat) : Int) + gi (n :: l) ((0 : Nat) : Int)) = l.take n.toNat := subO_cons h0
  have e2 : (subL (n :: l) ((1 : Nat) : Int) (((1 : Nat) : Int) + gi (n :: l) ((0 : Nat) : Int))).length ≤ 1048576 := by rw [e1, List.length_take]; omega
  have e3 : (((n :: l).length : Nat) : Int) = 9 := by rw [List.length_cons, hl]; rfl
  refine fnS [] [4] Try.func58 rfl (by decide) rfl (by decide) (by kernel_rfl) rfl (by simp [Try.ntmps58]) ?_
  cbv
  ((try simp only [IfP_iff, and_true, true_and, decide_eq_true_eq, decide_eq_false_iff_not]); (try simp only [natc, getI_gi, at2_0, at2_1]); (try dsimp only [Ty.den]); (try simp only [natc] at *); (repeat' (first | apply And.intro | intro _)))
  all_goals (repeat' (first | ((first | refine call_q (go_index _ x e2) (by cbv) ?_ | refine call_pure (go_index _ x e2) (by cbv) ?_); cbv; ((try simp only [IfP_iff, and_true, true_and, decide_eq_true_eq, decide_eq_false_iff_not]); (try simp only [natc, getI_gi, at2_0, at2_1]); (try dsimp only [Ty.den]); (try simp only [natc] at *); (repeat' (first | apply And.intro | intro _))))))
  all_goals (try (simp only [IfP_iff, EqU_iff, Obl_iff, and_true, true_and, inI_iff, decide_eq_true_eq, decide_eq_false_iff_not]; (try simp only [natc, getI_gi, at2_0, at2_1]); (try dsimp only [Ty.den]); try simp only [natc] at *))
  · rw [e0, e3]
    exact ⟨h0, h1, by decide⟩
  · rw [e1]
theorem im_swapped (n : Int) (l : List Int) (q : Int × Int) (hl : l.length = 8) (a0 : 0 ≤ q.1) (a1 : q.1 < 8) (b0 : 0 ≤ q.2) (b1 : q.2 < 8) : Spec2 Try.prog 59 [.agg (.pr .int (.ar 7 .int)) fun _ => (n, l), .agg (.pr .int .int) fun _ => q] [] [.agg (.pr .int (.ar 7 .int)) fun _ => (n, swp l q.1 q.2)] [] := by
  have e0 : at2 q 0 = q.1 := rfl
  have e00 : at2 q 1 = q.2 := rfl
  have e1 : gi (n :: l) (((1 : Nat) : Int) + q.1) = gi l q.1 := consV_at a0
  have e2 : gi (n :: l) (((1 : Nat) : Int) + q.2) = gi l q.2 := consV_at b0
  have e4 : ∀ (m y : Int) (k : List Int), setI (m :: k) (((1 : Nat) : Int) + q.1) y = m :: setI k q.1 y := fun m y k => consV_set a0
  have e5 : ∀ (m y : Int) (k : List Int), setI (m :: k) (((1 : Nat) : Int) + q.2) y = m :: setI k q.2 y := fun m y k => consV_set b0
  have e3 : (((n :: l).length : Nat) : Int) = 9 := by rw [List.length_cons, hl]; rfl
  have g1 : 0 ≤ q.1 ∧ q.1 < ((8 : Nat) : Int) ∧ ((1 : Nat) : Int) + ((8 : Nat) : Int) ≤ (((n :: l).length : Nat) : Int) := ⟨a0, a1, by rw [e3]; decide⟩
  have g2 : 0 ≤ q.2 ∧ q.2 < ((8 : Nat) : Int) ∧ ((1 : Nat) : Int) + ((8 : Nat) : Int) ≤ (((n :: l).length : Nat) : Int) := ⟨b0, b1, by rw [e3]; decide⟩
  have g3 : 0 ≤ q.2 ∧ q.2 < ((8 : Nat) : Int) ∧ ((1 : Nat) : Int) + ((8 : Nat) : Int) ≤ (((setI (n :: l) (((1 : Nat) : Int) + q.1) (gi (n :: l) (((1 : Nat) : Int) + q.2))).length : Nat) : Int) := ⟨b0, b1, by rw [setI_len, e3]; decide⟩
  refine fnGE [2] [.csq 4 7 70] Try.func59 rfl (by decide) rfl (by kernel_rfl) (.inl rfl) (by kernel_rfl) (Nat.zero_le _) (by simp [Try.ntmps59]) ?_
  cbv
  ((try simp only [IfP_iff, and_true, true_and, decide_eq_true_eq, decide_eq_false_iff_not]); (try simp only [natc, getI_gi, at2_0, at2_1]); (try dsimp only [Ty.den]); (try simp only [natc] at *); (repeat' (first | apply And.intro | intro _)))
  all_goals (try (show Obl _; (simp only [IfP_iff, EqU_iff, Obl_iff, and_true, true_and, inI_iff, decide_eq_true_eq, decide_eq_false_iff_not]; (try simp only [natc, getI_gi, at2_0, at2_1]); (try dsimp only [Ty.den]); try simp only [natc] at *); first | rfl | decide | omega))
  refine DrawL.layersS [] [0, 1, 2, 6] (fun _ _ => none) [([true, true, true, false, false, false, true, false, false, false, false, false, false, false, false, false], [3, 7, 10, 13]), ([true, true, true, true, false, false, true, false, false, false, false, false, false, false, false, false], [4, 7, 10, 13]), ([true, true, true, false, false, false, true, true, false, false, false, false, false, false, false, false], [3, 8, 10, 13]), ([true, true, true, false, false, false, true, false, false, false, true, false, false, false, false, false], [3, 7, 13]), ([true, true, true, false, false, false, true, false, false, false, false, false, false, true, false, false], [3, 7, 10]), ([true, true, true, true, true, false, true, false, false, false, false, false, false, false, false, false], [5, 7, 10, 13]), ([true, true, true, true, false, false, true, true, false, false, false, false, false, false, false, false], [4, 8, 10, 13]), ([true, true, true, true, false, false, true, false, false, false, true, false, false, false, false, false], [4, 7, 13]), ([true, true, true, true, false, false, true, false, false, false, false, false, false, true, false, false], [4, 7, 10]), ([true, true, true, false, false, false, true, true, true, false, false, false, false, false, false, false], [3, 9, 10, 13]), ([true, true, true, false, false, false, true, true, false, false, true, false, false, false, false, false], [3, 8, 13]), ([true, true, true, false, false, false, true, true, false, false, false, false, false, true, false, false], [3, 8, 10]), ([true, true, true, false, false, false, true, false, false, false, true, false, false, true, false, false], [3, 7]), ([true, true, true, true, true, true, true, false, false, false, false, false, false, false, false, false], [7, 10, 13]), ([true, true, true, true, true, false, true, true, false, false, false, false, false, false, false, false], [5, 8, 10, 13]), ([true, true, true, true, true, false, true, false, false, false, true, false, false, false, false, false], [5, 7, 13]), ([true, true, true, true, true, false, true, false, false, false, false, false, false, true, false, false], [5, 7, 10]), ([true, true, true, true, false, false, true, true, true, false, false, false, false, false, false, false], [4, 9, 10, 13]), ([true, true, true, true, false, false, true, true, false, false, true, false, false, false, false, false], [4, 8, 13]), ([true, true, true, true, false, false, true, true, false, false, false, false, false, true, false, false], [4, 8, 10]), ([true, true, true, true, false, false, true, false, false, false, true, false, false, true, false, false], [4, 7]), ([true, true, true, false, false, false, true, true, true, true, false, false, false, false, false, false], [3, 10, 13]), ([true, true, true, false, false, false, true, true, true, false, true, false, false, false, false, false], [3, 9, 13]), ([true, true, true, false, false, false, true, true, true, false, false, false, false, true, false, false], [3, 9, 10]), ([true, true, true, false, false, false, true, true, false, false, true, false, false, true, false, false], [3, 8]), ([true, true, true, true, true, true, true, true, false, false, false, false, false, false, false, false], [8, 10, 13]), ([true, true, true, true, true, true, true, false, false, false, true, false, false, false, false, false], [7, 13]), ([true, true, true, true, true, true, true, false, false, false, false, false, false, true, false, false], [7, 10]), ([true, true, true, true, true, false, true, true, true, false, false, false, false, false, false, false], [5, 9, 10, 13]), ([true, true, true, true, true, false, true, true, false, false, true, false, false, false, false, false], [5, 8, 13]), ([true, true, true, true, true, false, true, true, false, false, false, false, false, true, false, false], [5, 8, 10]), ([true, true, true, true, true, false, true, false, false, false, true, false, false, true, false, false], [5, 7]), ([true, true, true, true, false, false, true, true, true, true, false, false, false, false, false, false], [4, 10, 13]), ([true, true, true, true, false, false, true, true, true, false, true, false, false, false, false, false], [4, 9, 13]), ([true, true, true, true, false, false, true, true, true, false, false, false, false, true, false, false], [4, 9, 10]), ([true, true, true, true, false, false, true, true, false, false, true, false, false, true, false, false], [4, 8]), ([true, true, true, false, false, false, true, true, true, true, true, false, false, false, false, false], [3, 13]), ([true, true, true, false, false, false, true, true, true, true, false, false, false, true, false, false], [3, 10]), ([true, true, true, false, false, false, true, true, true, false, true, false, false, true, false, false], [3, 9]), ([true, true, true, true, true, true, true, true, true, false, false, false, false, false, false, false], [9, 10, 13]), ([true, true, true, true, true, true, true, true, false, false, true, false, false, false, false, false], [8, 13]), ([true, true, true, true, true, true, true, true, false, false, false, false, false, true, false, false], [8, 10]), ([true, true, true, true, true, true, true, false, false, false, true, false, false, true, false, false], [7]), ([true, true, true, true, true, false, true, true, true, true, false, false, false, false, false, false], [5, 10, 13]), ([true, true, true, true, true, false, true, true, true, false, true, false, false, false, false, false], [5, 9, 13]), ([true, true, true, true, true, false, true, true, true, false, false, false, false, true, false, false], [5, 9, 10]), ([true, true, true, true, true, false, true, true, false, false, true, false, false, true, false, false], [5, 8]), ([true, true, true, true, false, false, true, true, true, true, true, false, false, false, false, false], [4, 13]), ([true, true, true, true, false, false, true, true, true, true, false, false, false, true, false, false], [4, 10]), ([true, true, true, true, false, false, true, true, true, false, true, false, false, true, false, false], [4, 9]), ([true, true, true, false, false, false, true, true, true, true, true, false, false, true, false, false], [3]), ([true, true, true, true, true, true, true, true, true, true, false, false, false, false, false, false], [10, 13]), ([true, true, true, true, true, true, true, true, true, false, true, false, false, false, false, false], [9, 13]), ([true, true, true, true, true, true, true, true, true, false, false, false, false, true, false, false], [9, 10]), ([true, true, true, true, true, true, true, true, false, false, true, false, false, true, false, false], [8]), ([true, true, true, true, true, false, true, true, true, true, true, false, false, false, false, false], [5, 13]), ([true, true, true, true, true, false, true, true, true, true, false, false, false, true, false, false], [5, 10]), ([true, true, true, true, true, false, true, true, true, false, true, false, false, true, false, false], [5, 9]), ([true, true, true, true, false, false, true, true, true, true, true, false, false, true, false, false], [4]), ([true, true, true, true, true, true, true, true, true, true, true, false, false, false, false, false], [11, 13]), ([true, true, true, true, true, true, true, true, true, true, false, false, false, true, false, false], [10]), ([true, true, true, true, true, true, true, true, true, false, true, false, false, true, false, false], [9]), ([true, true, true, true, true, false, true, true, true, true, true, false, false, true, false, false], [5]), ([true, true, true, true, true, true, true, true, true, true, true, true, false, false, false, false], [12, 13]), ([true, true, true, true, true, true, true, true, true, true, true, false, false, true, false, false], [11]), ([true, true, true, true, true, true, true, true, true, true, true, true, true, false, false, false], [13]), ([true, true, true, true, true, true, true, true, true, true, true, true, false, true, false, false], [12]), ([true, true, true, true, true, true, true, true, true, true, true, true, true, true, false, false], [14]), ([true, true, true, true, true, true, true, true, true, true, true, true, true, true, true, false], [15]), ([true, true, true, true, true, true, true, true, true, true, true, true, true, true, true, true], [])] (by kernel_rfl) (by rfl) ?_
  cbv
  (repeat' (first | apply And.intro | apply EqU.mk))
  all_goals (try trivial)
  all_goals (try rfl)
  all_goals (try (first | exact ⟨g1⟩ | exact ⟨g2⟩ | exact ⟨g3⟩))
  refine EndG.plain [] ?_
  cbv
  (simp only [IfP_iff, EqU_iff, Obl_iff, and_true, true_and, inI_iff, decide_eq_true_eq, decide_eq_false_iff_not]; (try simp only [natc, getI_gi, at2_0, at2_1]); (try dsimp only [Ty.den]); try simp only [natc] at *)
  show (gi (setI (setI (n :: l) (((1 : Nat) : Int) + q.1) (gi (n :: l) (((1 : Nat) : Int) + q.2))) (((1 : Nat) : Int) + q.2) (gi (n :: l) (((1 : Nat) : Int) + q.1))) 0, List.drop 1 (setI (setI (n :: l) (((1 : Nat) : Int) + q.1) (gi (n :: l) (((1 : Nat) : Int) + q.2))) (((1 : Nat) : Int) + q.2) (gi (n :: l) (((1 : Nat) : Int) + q.1)))) = _
  rw [e1, e2, e4, e5]
  rfl
end Go.Proofs.Ytoejmijcikehdaa.M

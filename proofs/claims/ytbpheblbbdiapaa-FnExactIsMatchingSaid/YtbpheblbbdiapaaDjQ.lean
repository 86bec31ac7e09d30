/- CrossingsOf, CommonDiagonals, FanOf: both sides. -/
import Derived.Test.YtbpheblbbdiapaaDiQ
import Derived.Test.YtbpheblbbdiapaaDnQ
import Derived.Test.YtbpheblbbdiapaaQg
namespace Go.Proofs.Ytbpheblbbdiapaa.M
open Go.RowKit Abs
set_option linter.unusedSimpArgs false
set_option linter.unusedVariables false
set_option maxRecDepth 100000
set_option maxHeartbeats 4000000
def cntB (l : List Int) (p : Int → Bool) (k : Nat) : Int := ((l.take k).filter p).length
theorem cntB_next {l : List Int} {p : Int → Bool} {k : Int} (h0 : 0 ≤ k) (h1 : k < (l.length : Int)) : cntB l p (k + 1).toNat = cntB l p k.toNat + if p (gi l k) = true then 1 else 0 := by
  unfold cntB
  rw [take_gi h0 h1, List.filter_append, List.length_append]
  by_cases h : p (gi l k) = true
  · rw [if_pos h, List.filter_cons, if_pos h]; simp
  · rw [if_neg h, List.filter_cons, if_neg h]; simp
theorem cntB_in (l : List Int) (p : Int → Bool) (k : Nat) : 0 ≤ cntB l p k ∧ cntB l p k ≤ l.length := by
  unfold cntB
  have := List.length_filter_le p (l.take k)
  rw [List.length_take] at this
  omega
def crossTo (a b : List Int) : Nat → Int
  | 0 => 0
  | i + 1 => crossTo a b i + cntB b (crossB (gi a i)) b.length
theorem crossTo_in (a b : List Int) : ∀ i, 0 ≤ crossTo a b i ∧ crossTo a b i ≤ i * b.length
  | 0 => by simp [crossTo]
  | i + 1 => by
    have h1 := crossTo_in a b i
    have h2 := cntB_in b (crossB (gi a i)) b.length
    unfold crossTo
    have e : ((i + 1 : Nat) : Int) * b.length = i * b.length + b.length := by
      rw [Int.natCast_add, Int.add_mul]; simp
    rw [e]
    omega
theorem crossTo_next {a b : List Int} {i : Int} (h : 0 ≤ i) : crossTo a b (i + 1).toNat = crossTo a b i.toNat + cntB b (crossB (gi a i)) b.length := by
  rw [show (i + 1).toNat = i.toNat + 1 by omega]
  conv => lhs; unfold crossTo
  rw [show ((i.toNat : Nat) : Int) = i by omega]
def crossR (n : Int) (a b : List Int) : Int := if vv n a b = true then crossTo a b a.length else 0
theorem cross_bound {n : Int} {a b : List Int} (ha : triV n a = true) (hb : triV n b = true) (i : Int) (h0 : 0 ≤ i) (h1 : i ≤ a.length) : 0 ≤ crossTo a b i.toNat ∧ crossTo a b i.toNat ≤ 25 := by
  have h2 := crossTo_in a b i.toNat
  have h3 := triV_len ha
  have h4 := triV_len hb
  have h5 := triV_poly ha
  refine ⟨h2.1, Int.le_trans h2.2 ?_⟩
  have : ((i.toNat : Nat) : Int) * b.length ≤ 5 * 5 := Int.mul_le_mul (by omega) (by omega) (by omega) (by omega)
  omega
theorem im_crossings (n : Int) (a b : List Int) (ha : a.length ≤ 1048576) (hb : b.length ≤ 1048576) : Spec2 Try.prog 22 [.int fun _ => n, .sl .int fun _ => a, .sl .int fun _ => b] [] [.int fun _ => crossR n a b, .bool fun _ => vv n a b] [] := by
  by_cases hv : vv n a b = true
  case neg =>
    have h8 : crossR n a b = 0 := by unfold crossR; rw [if_neg hv]
    rw [Bool.not_eq_true] at hv
    rw [hv, h8]
    refine fnS [] [6, 7] Try.func22 rfl (by decide) rfl (by decide) (by kernel_rfl) rfl (by simp [Try.ntmps22]) ?_
    cbv
    repeat' (first | ((first | refine call_q (im_areTri2 n a b ha hb) (by cbv) ?_ | refine call_pure (im_areTri2 n a b ha hb) (by cbv) ?_); cbv; ((try simp only [IfP_iff, and_true, true_and, decide_eq_true_eq, decide_eq_false_iff_not]); (try simp only [natc, getI_gi, at2_0, at2_1]); (try dsimp only [Ty.den]); (try simp only [natc] at *); (repeat' (first | apply And.intro | intro _)))))
    all_goals (try (simp only [IfP_iff, EqU_iff, Obl_iff, and_true, true_and, inI_iff, decide_eq_true_eq, decide_eq_false_iff_not]; (try simp only [natc, getI_gi, at2_0, at2_1]); (try dsimp only [Ty.den]); try simp only [natc] at *))
    ((try simp only [IfP_iff, and_true, true_and, decide_eq_true_eq, decide_eq_false_iff_not]); (try simp only [natc, getI_gi, at2_0, at2_1]); (try dsimp only [Ty.den]); (try simp only [natc] at *); (repeat' (first | apply And.intro | intro _)))
    all_goals (try (exact absurd (by assumption : (!vv n a b) = false) (by rw [hv]; decide)))
    all_goals (try (simp only [IfP_iff, EqU_iff, Obl_iff, and_true, true_and, inI_iff, decide_eq_true_eq, decide_eq_false_iff_not]; (try simp only [natc, getI_gi, at2_0, at2_1]); (try dsimp only [Ty.den]); try simp only [natc] at *))
  have h8 : crossR n a b = crossTo a b a.length := by unfold crossR; rw [if_pos hv]
  have hv2 := hv
  unfold vv at hv2
  simp only [Bool.and_eq_true] at hv2
  obtain ⟨va, vb⟩ := hv2
  have la := triV_len va
  have lb := triV_len vb
  have hp := triV_poly va
  rw [hv, h8]
  refine fnS [] [6, 7] Try.func22 rfl (by decide) rfl (by decide) (by kernel_rfl) rfl (by simp [Try.ntmps22]) ?_
  cbv
  repeat' (first | ((first | refine call_q (im_areTri2 n a b ha hb) (by cbv) ?_ | refine call_pure (im_areTri2 n a b ha hb) (by cbv) ?_); cbv; ((try simp only [IfP_iff, and_true, true_and, decide_eq_true_eq, decide_eq_false_iff_not]); (try simp only [natc, getI_gi, at2_0, at2_1]); (try dsimp only [Ty.den]); (try simp only [natc] at *); (repeat' (first | apply And.intro | intro _)))))
  all_goals (try (simp only [IfP_iff, EqU_iff, Obl_iff, and_true, true_and, inI_iff, decide_eq_true_eq, decide_eq_false_iff_not]; (try simp only [natc, getI_gi, at2_0, at2_1]); (try dsimp only [Ty.den]); try simp only [natc] at *))
  ((try simp only [IfP_iff, and_true, true_and, decide_eq_true_eq, decide_eq_false_iff_not]); (try simp only [natc, getI_gi, at2_0, at2_1]); (try dsimp only [Ty.den]); (try simp only [natc] at *); (repeat' (first | apply And.intro | intro _)))
  all_goals (try (exact absurd (by assumption : (!vv n a b) = true) (by rw [hv]; decide)))
  refine loopP (by kernel_rfl) (fun i : Int => 0 ≤ i ∧ i ≤ a.length) (fun i => [(21, .int fun _ => i), (8, .int fun _ => crossTo a b i.toNat), (10, .junk)]) (fun i => []) (fun i => (a.length - i).toNat) (· + 1) 0 (by omega) ?_ ?_
  · cbv
    (simp only [IfP_iff, EqU_iff, Obl_iff, and_true, true_and, inI_iff, decide_eq_true_eq, decide_eq_false_iff_not]; (try simp only [natc, getI_gi, at2_0, at2_1]); (try dsimp only [Ty.den]); try simp only [natc] at *)
    rfl
  · intro i hi
    have b1 := cross_bound va vb i hi.1 hi.2
    have b2 := crossTo_next (a := a) (b := b) hi.1
    have b3 : i < (a.length : Int) → 0 ≤ gi a i ∧ gi a i < 100 := fun h => triV_in va (gi_mem hi.1 h)
    have b4 : ¬ i < (a.length : Int) → crossTo a b i.toNat = crossTo a b a.length := fun h => by rw [show i.toNat = a.length by omega]
    cbv
    ((try simp only [IfP_iff, and_true, true_and, decide_eq_true_eq, decide_eq_false_iff_not]); (try simp only [natc, getI_gi, at2_0, at2_1]); (try dsimp only [Ty.den]); (try simp only [natc] at *); (repeat' (first | apply And.intro | intro _)))
    all_goals (try ((simp only [IfP_iff, EqU_iff, Obl_iff, and_true, true_and, inI_iff, decide_eq_true_eq, decide_eq_false_iff_not]; (try simp only [natc, getI_gi, at2_0, at2_1]); (try dsimp only [Ty.den]); try simp only [natc] at *); done))
    all_goals (try ((simp only [IfP_iff, EqU_iff, Obl_iff, and_true, true_and, inI_iff, decide_eq_true_eq, decide_eq_false_iff_not]; (try simp only [natc, getI_gi, at2_0, at2_1]); (try dsimp only [Ty.den]); try simp only [natc] at *); (repeat' (first | apply And.intro | intro _)) <;> first | omega | exact b4 (by assumption)))
    have b5 := b3 (by assumption)
    clear b3 b4
    refine loopP (by kernel_rfl) (fun j : Int => 0 ≤ j ∧ j ≤ b.length) (fun j => [(27, .int fun _ => j), (8, .int fun _ => crossTo a b i.toNat + cntB b (crossB (gi a i)) j.toNat), (12, .junk)]) (fun j => []) (fun j => (b.length - j).toNat) (· + 1) 0 (by omega) ?_ ?_
    · cbv
      (simp only [IfP_iff, EqU_iff, Obl_iff, and_true, true_and, inI_iff, decide_eq_true_eq, decide_eq_false_iff_not]; (try simp only [natc, getI_gi, at2_0, at2_1]); (try dsimp only [Ty.den]); try simp only [natc] at *)
      simp [cntB]
    · intro j hj
      have c1 := cntB_in b (crossB (gi a i)) j.toNat
      have c2 := fun h => cntB_next (l := b) (p := crossB (gi a i)) (k := j) hj.1 h
      have c3 : j < (b.length : Int) → 0 ≤ gi b j ∧ gi b j < 100 := fun h => triV_in vb (gi_mem hj.1 h)
      have c4 : ¬ j < (b.length : Int) → crossTo a b i.toNat + cntB b (crossB (gi a i)) j.toNat = crossTo a b (i + 1).toNat := fun h => by rw [b2, show j.toNat = b.length by omega]
      have c5 : j < (b.length : Int) → crossB (gi a i) (gi b j) = true → cntB b (crossB (gi a i)) (j + 1).toNat = cntB b (crossB (gi a i)) j.toNat + 1 := fun h e => by rw [c2 h, if_pos e]
      have c6 : j < (b.length : Int) → crossB (gi a i) (gi b j) = false → cntB b (crossB (gi a i)) (j + 1).toNat = cntB b (crossB (gi a i)) j.toNat := fun h e => by rw [c2 h, if_neg (by rw [e]; decide)]; omega
      clear b2 c2
      cbv
      ((try simp only [IfP_iff, and_true, true_and, decide_eq_true_eq, decide_eq_false_iff_not]); (try simp only [natc, getI_gi, at2_0, at2_1]); (try dsimp only [Ty.den]); (try simp only [natc] at *); (repeat' (first | apply And.intro | intro _)))
      all_goals (repeat' (first | ((first | refine call_q (im_cross (gi a i) (gi b j) b5.1 b5.2 (c3 (by assumption)).1 (c3 (by assumption)).2) (by cbv) ?_ | refine call_pure (im_cross (gi a i) (gi b j) b5.1 b5.2 (c3 (by assumption)).1 (c3 (by assumption)).2) (by cbv) ?_); cbv; ((try simp only [IfP_iff, and_true, true_and, decide_eq_true_eq, decide_eq_false_iff_not]); (try simp only [natc, getI_gi, at2_0, at2_1]); (try dsimp only [Ty.den]); (try simp only [natc] at *); (repeat' (first | apply And.intro | intro _))))))
      all_goals (try ((try simp only [IfP_iff, and_true, true_and, decide_eq_true_eq, decide_eq_false_iff_not]); (try simp only [natc, getI_gi, at2_0, at2_1]); (try dsimp only [Ty.den]); (try simp only [natc] at *); (repeat' (first | apply And.intro | intro _))))
      all_goals (try (simp only [IfP_iff, EqU_iff, Obl_iff, and_true, true_and, inI_iff, decide_eq_true_eq, decide_eq_false_iff_not]; (try simp only [natc, getI_gi, at2_0, at2_1]); (try dsimp only [Ty.den]); try simp only [natc] at *))
      all_goals ((repeat' (first | apply And.intro | intro _)) <;> first | omega | (exact c4 (by assumption)) | (have q := c5 (by assumption) (by assumption); omega) | (have q := c6 (by assumption) (by assumption); omega) | trace_state)
end Go.Proofs.Ytbpheblbbdiapaa.M

/- CrossingsOf: the specification. -/
import Derived.Test.YtbpheblbbdiapaaDjQ
import Derived.Test.YtbpheblbbdiapaaQg
namespace Go.Proofs.Ytbpheblbbdiapaa.M
open Go.RowKit Abs
set_option linter.unusedSimpArgs false
set_option linter.unusedVariables false
set_option maxRecDepth 100000
set_option maxHeartbeats 4000000
theorem two_valid {n : Int} {a b : List Int} (h : vv n a b = false) (ha : (!triV n a) = false) (hb : (!triV n b) = false) : False := by
  unfold vv at h
  rw [show triV n a = true by simpa using ha, show triV n b = true by simpa using hb] at h
  cases h
theorem sp_crossings (n : Int) (a b : List Int) (ha : a.length ≤ 1048576) (hb : b.length ≤ 1048576) : Spec2 Try.prog 21 [.int fun _ => n, .sl .int fun _ => a, .sl .int fun _ => b] [] [.int fun _ => crossR n a b, .bool fun _ => vv n a b] [] := by
  by_cases hv : vv n a b = true
  case neg =>
    have h8 : crossR n a b = 0 := by unfold crossR; rw [if_neg hv]
    rw [Bool.not_eq_true] at hv
    rw [hv, h8]
    refine fnS [] [6, 7] Try.func21 rfl (by decide) rfl (by decide) (by kernel_rfl) rfl (by simp [Try.ntmps21]) ?_
    cbv
    repeat' (first | ((first | refine call_q (sp_valid n a ha) (by cbv) ?_ | refine call_pure (sp_valid n a ha) (by cbv) ?_); cbv; ((try simp only [IfP_iff, and_true, true_and, decide_eq_true_eq, decide_eq_false_iff_not]); (try simp only [natc, getI_gi, at2_0, at2_1]); (try dsimp only [Ty.den]); (try simp only [natc] at *); (repeat' (first | apply And.intro | intro _)))))
    all_goals (try (simp only [IfP_iff, EqU_iff, Obl_iff, and_true, true_and, inI_iff, decide_eq_true_eq, decide_eq_false_iff_not]; (try simp only [natc, getI_gi, at2_0, at2_1]); (try dsimp only [Ty.den]); try simp only [natc] at *))
    ((try simp only [IfP_iff, and_true, true_and, decide_eq_true_eq, decide_eq_false_iff_not]); (try simp only [natc, getI_gi, at2_0, at2_1]); (try dsimp only [Ty.den]); (try simp only [natc] at *); (repeat' (first | apply And.intro | intro _)))
    all_goals (repeat' (first | ((first | refine call_q (sp_valid n b hb) (by cbv) ?_ | refine call_pure (sp_valid n b hb) (by cbv) ?_); cbv; ((try simp only [IfP_iff, and_true, true_and, decide_eq_true_eq, decide_eq_false_iff_not]); (try simp only [natc, getI_gi, at2_0, at2_1]); (try dsimp only [Ty.den]); (try simp only [natc] at *); (repeat' (first | apply And.intro | intro _))))))
    all_goals (try ((try simp only [IfP_iff, and_true, true_and, decide_eq_true_eq, decide_eq_false_iff_not]); (try simp only [natc, getI_gi, at2_0, at2_1]); (try dsimp only [Ty.den]); (try simp only [natc] at *); (repeat' (first | apply And.intro | intro _))))
    all_goals (try (exact (two_valid hv (by assumption) (by assumption)).elim))
    all_goals (try (simp only [IfP_iff, EqU_iff, Obl_iff, and_true, true_and, inI_iff, decide_eq_true_eq, decide_eq_false_iff_not]; (try simp only [natc, getI_gi, at2_0, at2_1]); (try dsimp only [Ty.den]); try simp only [natc] at *))
  have h8 : crossR n a b = crossTo a b a.length := by unfold crossR; rw [if_pos hv]
  have hv2 := hv
  unfold vv at hv2
  simp only [Bool.and_eq_true] at hv2
  obtain ⟨va, vb⟩ := hv2
  have la := triV_len va
  have lb := triV_len vb
  have hp := triV_poly va
  rw [hv, h8]
  refine fnS [] [6, 7] Try.func21 rfl (by decide) rfl (by decide) (by kernel_rfl) rfl (by simp [Try.ntmps21]) ?_
  cbv
  repeat' (first | ((first | refine call_q (sp_valid n a ha) (by cbv) ?_ | refine call_pure (sp_valid n a ha) (by cbv) ?_); cbv; ((try simp only [IfP_iff, and_true, true_and, decide_eq_true_eq, decide_eq_false_iff_not]); (try simp only [natc, getI_gi, at2_0, at2_1]); (try dsimp only [Ty.den]); (try simp only [natc] at *); (repeat' (first | apply And.intro | intro _)))))
  all_goals (try (simp only [IfP_iff, EqU_iff, Obl_iff, and_true, true_and, inI_iff, decide_eq_true_eq, decide_eq_false_iff_not]; (try simp only [natc, getI_gi, at2_0, at2_1]); (try dsimp only [Ty.den]); try simp only [natc] at *))
  ((try simp only [IfP_iff, and_true, true_and, decide_eq_true_eq, decide_eq_false_iff_not]); (try simp only [natc, getI_gi, at2_0, at2_1]); (try dsimp only [Ty.den]); (try simp only [natc] at *); (repeat' (first | apply And.intro | intro _)))
  all_goals (repeat' (first | ((first | refine call_q (sp_valid n b hb) (by cbv) ?_ | refine call_pure (sp_valid n b hb) (by cbv) ?_); cbv; ((try simp only [IfP_iff, and_true, true_and, decide_eq_true_eq, decide_eq_false_iff_not]); (try simp only [natc, getI_gi, at2_0, at2_1]); (try dsimp only [Ty.den]); (try simp only [natc] at *); (repeat' (first | apply And.intro | intro _))))))
  all_goals (try ((try simp only [IfP_iff, and_true, true_and, decide_eq_true_eq, decide_eq_false_iff_not]); (try simp only [natc, getI_gi, at2_0, at2_1]); (try dsimp only [Ty.den]); (try simp only [natc] at *); (repeat' (first | apply And.intro | intro _))))
  all_goals (try (exact absurd (by assumption : (!triV n a) = true) (by rw [va]; decide)))
  all_goals (try (exact absurd (by assumption : (!triV n b) = true) (by rw [vb]; decide)))
  refine loopP (by kernel_rfl) (fun i : Int => 0 ≤ i ∧ i ≤ a.length) (fun i => [(9, .int fun _ => i), (8, .int fun _ => crossTo a b i.toNat), (10, .junk)]) (fun i => []) (fun i => (a.length - i).toNat) (· + 1) 0 (by omega) ?_ ?_
  · cbv
    (simp only [IfP_iff, EqU_iff, Obl_iff, and_true, true_and, inI_iff, decide_eq_true_eq, decide_eq_false_iff_not]; (try simp only [natc, getI_gi, at2_0, at2_1]); (try dsimp only [Ty.den]); try simp only [natc] at *)
    rfl
  · intro i hi
    have b1 := cross_bound va vb i hi.1 hi.2
    have b2 := crossTo_next (a := a) (b := b) hi.1
    have b3 : i < (a.length : Int) → 0 ≤ gi a i ∧ gi a i < 100 := fun h => triV_in va (gi_mem hi.1 h)
    have b4 : ¬ i < (a.length : Int) → crossTo a b i.toNat = crossTo a b a.length := fun h => by rw [show i.toNat = a.length by omega]
    cbv
    ((try simp only [IfP_iff, and_true, true_and, decide_eq_true_eq, decide_eq_false_iff_not]); (try simp only [natc, getI_gi, at2_0, at2_1]); (try dsimp only [Ty.den]); (try simp only [natc] at *); (repeat' (first | apply And.intro | intro _)))
    all_goals (try ((simp only [IfP_iff, EqU_iff, Obl_iff, and_true, true_and, inI_iff, decide_eq_true_eq, decide_eq_false_iff_not]; (try simp only [natc, getI_gi, at2_0, at2_1]); (try dsimp only [Ty.den]); try simp only [natc] at *); done))
    all_goals (try ((simp only [IfP_iff, EqU_iff, Obl_iff, and_true, true_and, inI_iff, decide_eq_true_eq, decide_eq_false_iff_not]; (try simp only [natc, getI_gi, at2_0, at2_1]); (try dsimp only [Ty.den]); try simp only [natc] at *); (repeat' (first | apply And.intro | intro _)) <;> first | omega | exact b4 (by assumption)))
    have b5 := b3 (by assumption)
    clear b3 b4
    refine loopP (by kernel_rfl) (fun j : Int => 0 ≤ j ∧ j ≤ b.length) (fun j => [(10, .int fun _ => j), (8, .int fun _ => crossTo a b i.toNat + cntB b (crossB (gi a i)) j.toNat)]) (fun j => []) (fun j => (b.length - j).toNat) (· + 1) 0 (by omega) ?_ ?_
    · cbv
      (simp only [IfP_iff, EqU_iff, Obl_iff, and_true, true_and, inI_iff, decide_eq_true_eq, decide_eq_false_iff_not]; (try simp only [natc, getI_gi, at2_0, at2_1]); (try dsimp only [Ty.den]); try simp only [natc] at *)
      simp [cntB]
    · intro j hj
      have c1 := cntB_in b (crossB (gi a i)) j.toNat
      have c2 := fun h => cntB_next (l := b) (p := crossB (gi a i)) (k := j) hj.1 h
      have c3 : j < (b.length : Int) → 0 ≤ gi b j ∧ gi b j < 100 := fun h => triV_in vb (gi_mem hj.1 h)
      have c4 : ¬ j < (b.length : Int) → crossTo a b i.toNat + cntB b (crossB (gi a i)) j.toNat = crossTo a b (i + 1).toNat := fun h => by rw [b2, show j.toNat = b.length by omega]
      have c5 : j < (b.length : Int) → crossB (gi a i) (gi b j) = true → cntB b (crossB (gi a i)) (j + 1).toNat = cntB b (crossB (gi a i)) j.toNat + 1 := fun h e => by rw [c2 h, if_pos e]
      have c6 : j < (b.length : Int) → crossB (gi a i) (gi b j) = false → cntB b (crossB (gi a i)) (j + 1).toNat = cntB b (crossB (gi a i)) j.toNat := fun h e => by rw [c2 h, if_neg (by rw [e]; decide)]; omega
      clear b2 c2
      cbv
      ((try simp only [IfP_iff, and_true, true_and, decide_eq_true_eq, decide_eq_false_iff_not]); (try simp only [natc, getI_gi, at2_0, at2_1]); (try dsimp only [Ty.den]); (try simp only [natc] at *); (repeat' (first | apply And.intro | intro _)))
      all_goals (repeat' (first | ((first | refine call_q (sp_cross (gi a i) (gi b j) b5.1 b5.2 (c3 (by assumption)).1 (c3 (by assumption)).2) (by cbv) ?_ | refine call_pure (sp_cross (gi a i) (gi b j) b5.1 b5.2 (c3 (by assumption)).1 (c3 (by assumption)).2) (by cbv) ?_); cbv; ((try simp only [IfP_iff, and_true, true_and, decide_eq_true_eq, decide_eq_false_iff_not]); (try simp only [natc, getI_gi, at2_0, at2_1]); (try dsimp only [Ty.den]); (try simp only [natc] at *); (repeat' (first | apply And.intro | intro _))))))
      all_goals (try ((try simp only [IfP_iff, and_true, true_and, decide_eq_true_eq, decide_eq_false_iff_not]); (try simp only [natc, getI_gi, at2_0, at2_1]); (try dsimp only [Ty.den]); (try simp only [natc] at *); (repeat' (first | apply And.intro | intro _))))
      all_goals (try (simp only [IfP_iff, EqU_iff, Obl_iff, and_true, true_and, inI_iff, decide_eq_true_eq, decide_eq_false_iff_not]; (try simp only [natc, getI_gi, at2_0, at2_1]); (try dsimp only [Ty.den]); try simp only [natc] at *))
      all_goals ((repeat' (first | apply And.intro | intro _)) <;> first | omega | (exact c4 (by assumption)) | (have q := c5 (by assumption) (by assumption); omega) | (have q := c6 (by assumption) (by assumption); omega) | trace_state)
end Go.Proofs.Ytbpheblbbdiapaa.M

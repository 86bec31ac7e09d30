/- Diagonals: the lists of all of them, on both sides. -/
import Derived.Test.YtbpheblbbdiapaaDbQ
namespace Go.Proofs.Ytbpheblbbdiapaa.M
open Go.RowKit Abs
set_option linter.unusedSimpArgs false
set_option linter.unusedVariables false
set_option maxRecDepth 100000
set_option maxHeartbeats 4000000
theorem sp_diagonals (n : Int) (n0 : 0 ≤ n) (n1 : n ≤ 8) : Spec2 Try.prog 45 [.int fun _ => n] [] [.ref 0] [some (.row 3 .int fun _ => diagL n)] := by
  refine fnS [0] [2] Try.func45 rfl (by decide) rfl (by decide) (by kernel_rfl) rfl (by simp [Try.ntmps45]) ?_
  cbv
  refine loopP (by kernel_rfl) (fun a : Int => 0 ≤ a ∧ a ≤ n) (fun a => [(4, .int fun _ => a), (3, .ref 0), (6, .junk)]) (fun a => [(0, some (.row 3 .int fun _ => dTo n a.toNat))]) (fun a => (n - a).toNat) (· + 1) 0 (by omega) ?_ ?_
  · cbv
    (simp only [IfP_iff, EqU_iff, Obl_iff, and_true, true_and, inI_iff, decide_eq_true_eq, decide_eq_false_iff_not]; (try simp only [natc, at2_0, at2_1]); (try dsimp only [Ty.den]); try simp only [natc] at *)
    rfl
  · intro a ha
    have h1 := dTo_next (n := n) ha.1
    have h2 := dTo_len n0 n1 a.toNat
    have h3 : ¬ a < n → dTo n a.toNat = diagL n := fun h => by unfold diagL; rw [show a = n by omega]
    cbv
    ((try simp only [IfP_iff, and_true, true_and, decide_eq_true_eq, decide_eq_false_iff_not]); (try simp only [natc, at2_0, at2_1]); (try dsimp only [Ty.den]); (try simp only [natc] at *); (repeat' (first | apply And.intro | intro _)))
    all_goals (try ((simp only [IfP_iff, EqU_iff, Obl_iff, and_true, true_and, inI_iff, decide_eq_true_eq, decide_eq_false_iff_not]; (try simp only [natc, at2_0, at2_1]); (try dsimp only [Ty.den]); try simp only [natc] at *); done))
    all_goals (try ((simp only [IfP_iff, EqU_iff, Obl_iff, and_true, true_and, inI_iff, decide_eq_true_eq, decide_eq_false_iff_not]; (try simp only [natc, at2_0, at2_1]); (try dsimp only [Ty.den]); try simp only [natc] at *); (repeat' (first | apply And.intro | intro _)) <;> first | omega | exact h3 (by assumption)))
    rotate_right 1
    refine loopP (by kernel_rfl) (fun b : Int => a + 2 ≤ b ∧ (b ≤ n ∨ b = a + 2)) (fun b => [(5, .int fun _ => b), (3, .ref 0)]) (fun b => [(0, some (.row 3 .int fun _ => dTo n a.toNat ++ dRow n a (b - (a + 2)).toNat))]) (fun b => (n - b).toNat) (· + 1) (a + 2) (by omega) ?_ ?_
    · cbv
      (simp only [IfP_iff, EqU_iff, Obl_iff, and_true, true_and, inI_iff, decide_eq_true_eq, decide_eq_false_iff_not]; (try simp only [natc, at2_0, at2_1]); (try dsimp only [Ty.den]); try simp only [natc] at *)
      rw [show (a + 2 - (a + 2)).toNat = 0 by omega]
      exact (List.append_nil _).symm
    · intro b hb
      have g1 := dRow_next (n := n) hb.1
      have g2 := dRow_len n a (b - (a + 2)).toNat
      have g3 : ((dTo n a.toNat ++ dRow n a (b - (a + 2)).toNat).length : Int) ≤ 1000 := by rw [List.length_append]; omega
      have g4 : dOk n a b = true → (dTo n a.toNat ++ dRow n a (b - (a + 2)).toNat) ++ [10 * a + b] = dTo n a.toNat ++ dRow n a (b + 1 - (a + 2)).toNat := fun h => by rw [g1, if_pos h, List.append_assoc]
      have g5 : dOk n a b = false → dTo n a.toNat ++ dRow n a (b - (a + 2)).toNat = dTo n a.toNat ++ dRow n a (b + 1 - (a + 2)).toNat := fun h => by rw [g1, if_neg (by rw [h]; decide), List.append_nil]
      have g6 : ¬ b < n → dTo n a.toNat ++ dRow n a (b - (a + 2)).toNat = dTo n (a + 1).toNat := fun h => by
        rw [h1]
        rcases hb.2 with q | q
        · rw [show b = n by omega]
        · rw [q, show (a + 2 - (a + 2)).toNat = 0 by omega, show (n - (a + 2)).toNat = 0 by omega]
      clear h1 g1 g2 h2 h3
      cbv
      ((try simp only [IfP_iff, and_true, true_and, decide_eq_true_eq, decide_eq_false_iff_not]); (try simp only [natc, at2_0, at2_1]); (try dsimp only [Ty.den]); (try simp only [natc] at *); (repeat' (first | apply And.intro | intro _)))
      all_goals (try (simp only [IfP_iff, EqU_iff, Obl_iff, and_true, true_and, inI_iff, decide_eq_true_eq, decide_eq_false_iff_not]; (try simp only [natc, at2_0, at2_1]); (try dsimp only [Ty.den]); try simp only [natc] at *))
      all_goals ((repeat' (first | apply And.intro | intro _)) <;> first | omega | (exact g6 (by assumption)) | (rw [List.length_cons, List.length_nil]; omega) | (exact g4 (by unfold dOk; simp [*])) | (exact g5 (by unfold dOk; simp only [Bool.or_eq_false_iff, decide_eq_false_iff_not]; exact ⟨by assumption, by assumption⟩)) | (refine Int.le_trans (Int.add_le_add_right g3 _) ?_; rw [List.length_cons, List.length_nil]; omega) | trace_state)
theorem im_numbers (n : Int) (n0 : 0 ≤ n) (n1 : n ≤ 8) : Spec2 Try.prog 50 [.cells [.int fun _ => n]] [] [.ref 0] [some (.row 3 .int fun _ => diagL n)] := by
  refine fnS [1] [2] Try.func50 rfl (by decide) rfl (by decide) (by kernel_rfl) rfl (by simp [Try.ntmps50]) ?_
  cbv
  refine loopP (by kernel_rfl) (fun a : Int => 0 ≤ a ∧ a ≤ n) (fun a => [(9, .int fun _ => a), (3, .ref 1), (6, .junk)]) (fun a => [(1, some (.row 3 .int fun _ => dTo n a.toNat))]) (fun a => (n - a).toNat) (· + 1) 0 (by omega) ?_ ?_
  · cbv
    (simp only [IfP_iff, EqU_iff, Obl_iff, and_true, true_and, inI_iff, decide_eq_true_eq, decide_eq_false_iff_not]; (try simp only [natc, at2_0, at2_1]); (try dsimp only [Ty.den]); try simp only [natc] at *)
    rfl
  · intro a ha
    have h1 := dTo_next (n := n) ha.1
    have h2 := dTo_len n0 n1 a.toNat
    have h3 : ¬ a < n → dTo n a.toNat = diagL n := fun h => by unfold diagL; rw [show a = n by omega]
    cbv
    ((try simp only [IfP_iff, and_true, true_and, decide_eq_true_eq, decide_eq_false_iff_not]); (try simp only [natc, at2_0, at2_1]); (try dsimp only [Ty.den]); (try simp only [natc] at *); (repeat' (first | apply And.intro | intro _)))
    all_goals (try ((simp only [IfP_iff, EqU_iff, Obl_iff, and_true, true_and, inI_iff, decide_eq_true_eq, decide_eq_false_iff_not]; (try simp only [natc, at2_0, at2_1]); (try dsimp only [Ty.den]); try simp only [natc] at *); done))
    all_goals (try ((simp only [IfP_iff, EqU_iff, Obl_iff, and_true, true_and, inI_iff, decide_eq_true_eq, decide_eq_false_iff_not]; (try simp only [natc, at2_0, at2_1]); (try dsimp only [Ty.den]); try simp only [natc] at *); (repeat' (first | apply And.intro | intro _)) <;> first | omega | exact h3 (by assumption)))
    rotate_right 1
    refine loopP (by kernel_rfl) (fun b : Int => a + 2 ≤ b ∧ (b ≤ n ∨ b = a + 2)) (fun b => [(5, .int fun _ => b), (3, .ref 1)]) (fun b => [(1, some (.row 3 .int fun _ => dTo n a.toNat ++ dRow n a (b - (a + 2)).toNat))]) (fun b => (n - b).toNat) (· + 1) (a + 2) (by omega) ?_ ?_
    · cbv
      (simp only [IfP_iff, EqU_iff, Obl_iff, and_true, true_and, inI_iff, decide_eq_true_eq, decide_eq_false_iff_not]; (try simp only [natc, at2_0, at2_1]); (try dsimp only [Ty.den]); try simp only [natc] at *)
      rw [show (a + 2 - (a + 2)).toNat = 0 by omega]
      exact (List.append_nil _).symm
    · intro b hb
      have g1 := dRow_next (n := n) hb.1
      have g2 := dRow_len n a (b - (a + 2)).toNat
      have g3 : ((dTo n a.toNat ++ dRow n a (b - (a + 2)).toNat).length : Int) ≤ 1000 := by rw [List.length_append]; omega
      have g7 : 10 * min a b + max a b = 10 * a + b := by omega
      have g4 : dOk n a b = true → (dTo n a.toNat ++ dRow n a (b - (a + 2)).toNat) ++ [10 * min a b + max a b] = dTo n a.toNat ++ dRow n a (b + 1 - (a + 2)).toNat := fun h => by rw [g1, if_pos h, List.append_assoc, g7]
      have g5 : dOk n a b = false → dTo n a.toNat ++ dRow n a (b - (a + 2)).toNat = dTo n a.toNat ++ dRow n a (b + 1 - (a + 2)).toNat := fun h => by rw [g1, if_neg (by rw [h]; decide), List.append_nil]
      have g6 : ¬ b < n → dTo n a.toNat ++ dRow n a (b - (a + 2)).toNat = dTo n (a + 1).toNat := fun h => by
        rw [h1]
        rcases hb.2 with q | q
        · rw [show b = n by omega]
        · rw [q, show (a + 2 - (a + 2)).toNat = 0 by omega, show (n - (a + 2)).toNat = 0 by omega]
      clear h1 g1 g2 h2 h3 g7
      cbv
      ((try simp only [IfP_iff, and_true, true_and, decide_eq_true_eq, decide_eq_false_iff_not]); (try simp only [natc, at2_0, at2_1]); (try dsimp only [Ty.den]); (try simp only [natc] at *); (repeat' (first | apply And.intro | intro _)))
      all_goals (repeat' (first | ((first | refine call_q (im_diagAt a b (by omega) (by omega) (by omega) (by omega)) (by cbv) ?_ | refine call_pure (im_diagAt a b (by omega) (by omega) (by omega) (by omega)) (by cbv) ?_); cbv; ((try simp only [IfP_iff, and_true, true_and, decide_eq_true_eq, decide_eq_false_iff_not]); (try simp only [natc, at2_0, at2_1]); (try dsimp only [Ty.den]); (try simp only [natc] at *); (repeat' (first | apply And.intro | intro _))))))
      all_goals (try ((try simp only [IfP_iff, and_true, true_and, decide_eq_true_eq, decide_eq_false_iff_not]); (try simp only [natc, at2_0, at2_1]); (try dsimp only [Ty.den]); (try simp only [natc] at *); (repeat' (first | apply And.intro | intro _))))
      all_goals (try (simp only [IfP_iff, EqU_iff, Obl_iff, and_true, true_and, inI_iff, decide_eq_true_eq, decide_eq_false_iff_not]; (try simp only [natc, at2_0, at2_1]); (try dsimp only [Ty.den]); try simp only [natc] at *))
      all_goals ((repeat' (first | apply And.intro | intro _)) <;> first | omega | (exact g6 (by assumption)) | (rw [List.length_cons, List.length_nil]; omega) | (exact g4 (by unfold dOk; simp [*])) | (exact g5 (by unfold dOk; simp only [Bool.or_eq_false_iff, decide_eq_false_iff_not]; exact ⟨by assumption, by assumption⟩)) | (refine Int.le_trans (Int.add_le_add_right g3 _) ?_; rw [List.length_cons, List.length_nil]; omega) | trace_state)
end Go.Proofs.Ytbpheblbbdiapaa.M

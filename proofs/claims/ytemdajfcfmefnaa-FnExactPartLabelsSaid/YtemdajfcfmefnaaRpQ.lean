/- Rows that repeat a number. -/
import Derived.Test.YtemdajfcfmefnaaQg
import Derived.Test.YtemdajfcfmefnaaShelf
namespace Go.Proofs.Ytemdajfcfmefnaa.M
open Go.RowKit Abs
set_option linter.unusedSimpArgs false
set_option linter.unusedVariables false
set_option maxRecDepth 100000
set_option maxHeartbeats 4000000
theorem go_mul (x y : Nat) (hx : x < 18446744073709551616) (hy : y < 18446744073709551616) : Spec2 Try.prog 97 [.u64 fun _ => x, .u64 fun _ => y] [] [.u64 fun _ => ((x * y / 18446744073709551616 : Nat) : Int), .u64 fun _ => ((x * y % 18446744073709551616 : Nat) : Int)] [] := by
  refine ⟨by kernel_rfl, Nat.le_refl _, fun w val vs hH hv => ?_⟩
  match vs, hv with
  | [v, u], hv =>
  simp only [VRelL, VRel, and_true] at hv
  obtain ⟨rfl, rfl⟩ := hv
  refine (Try.bits_Mul x y hx hy w).mono ?_
  rintro e w' ⟨rfl, rfl⟩
  exact ⟨_, val, rfl, ⟨rfl, rfl, rfl, Nat.le_refl _, fun _ _ _ => rfl⟩, ⟨fun n B h => by simp at h, fun n B h => by simp at h, fun n m B C _ h => by simp at h⟩, fun n B h => by simp at h, fun n h => by simp at h, ⟨_, rfl, by simp [VRelL, VRel]⟩⟩
def rp (x : Int) (n m : Int) : List Int := List.replicate m.toNat x ++ List.replicate (n - m).toNat 0
theorem rp_len {x n m : Int} (h0 : 0 ≤ m) (h1 : m ≤ n) : ((rp x n m).length : Int) = n := by
  unfold rp; rw [List.length_append, List.length_replicate, List.length_replicate]; omega
theorem rp_step {x n m : Int} (h0 : 0 ≤ m) (h1 : m ≤ n) : cpy (rp x n m) (subL (rp x n m) 0 m) m n = rp x n (m + min m (n - m)) := by
  have e1 : subL (rp x n m) 0 m = List.replicate m.toNat x := by
    unfold subL rp
    simp [List.take_append_of_le_length]
  rw [e1]
  unfold cpy rp
  rw [List.length_replicate, List.take_append_of_le_length (by simp), List.take_of_length_le (by simp), List.take_replicate, List.drop_append, List.length_replicate, List.drop_of_length_le (by simp; omega), List.nil_append, List.drop_replicate, List.replicate_append_replicate]
  congr 2 <;> omega
theorem rp_first {x n : Int} (h1 : 1 ≤ n) : cpy (List.replicate n.toNat 0) [x] 0 n = rp x n 1 := by
  unfold cpy rp
  obtain ⟨k, hk⟩ : ∃ k, n.toNat = k + 1 := ⟨n.toNat - 1, by omega⟩
  have e1 : (n - 0).toNat = k + 1 := by omega
  have e2 : (n - 1).toNat = k := by omega
  rw [e1, e2]
  simp [hk, List.drop_replicate]
theorem go_repeat (x n : Int) (h0 : 0 ≤ n) (h1 : n ≤ 1048576) : Spec2 Try.prog 87 [.sl .int fun _ => [x], .int fun _ => n] [] [.ref 0] [some (.row 3 .int fun _ => List.replicate n.toNat x)] := by
  have hm := go_mul 1 n.toNat (by omega) (by omega)
  have e1 : (1 * n.toNat / 18446744073709551616 : Nat) = 0 := by omega
  have e2 : ((1 * n.toNat % 18446744073709551616 : Nat) : Int) = n := by omega
  have e3 : ((n.toNat : Nat) : Int) = n := by omega
  simp only [e1, e2, e3] at hm
  refine fnS [0] [4] Try.func87 rfl (by decide) rfl (by decide) (by kernel_rfl) rfl (by simp [Try.ntmps87]) ?_
  cbv
  ((try simp only [IfP_iff, and_true, true_and, decide_eq_true_eq, decide_eq_false_iff_not]); (try simp only [natc, getI_gi, at2_0, at2_1]); (try dsimp only [Ty.den]); (try simp only [natc] at *); (repeat' (first | apply And.intro | intro _)))
  rotate_right 1
  · ((first | refine call_q hm (by cbv) ?_ | refine call_pure hm (by cbv) ?_); cbv; ((try simp only [IfP_iff, and_true, true_and, decide_eq_true_eq, decide_eq_false_iff_not]); (try simp only [natc, getI_gi, at2_0, at2_1]); (try dsimp only [Ty.den]); (try simp only [natc] at *); (repeat' (first | apply And.intro | intro _))))
    rotate_right 1
    · refine loopP (by kernel_rfl) (fun m : Int => 0 ≤ m ∧ m ≤ n ∧ (n = 0 ∨ 1 ≤ m)) (fun m => [(8, .int fun _ => m)]) (fun m => [(0, some (.row 3 .int fun _ => rp x n m))]) (fun m => (n - m).toNat) (fun m => m + min m (n - m)) (min 1 n) (by omega) ?_ ?_
      · have g1 : ((List.replicate n.toNat (0 : Int)).length : Int) = n := by simp; omega
        have g2 : 1 ≤ n → cpy (List.replicate n.toNat 0) [x] 0 n = rp x n 1 := fun h => rp_first h
        have g3 : n = 0 → cpy (List.replicate n.toNat 0) [x] 0 n = rp x n 0 := fun h => by subst h; simp [cpy, rp]
        have gz : @Eq (List Int) (List.replicate n.toNat (zden Ty.int)) (List.replicate n.toNat 0) := rfl
        have g4 : ¬ n = 0 → min 1 n = 1 := fun h => by omega
        have g5 : n = 0 → min 1 n = 0 := fun h => by omega
        cbv
        (simp only [IfP_iff, EqU_iff, Obl_iff, and_true, true_and, inI_iff, decide_eq_true_eq, decide_eq_false_iff_not]; (try simp only [natc, getI_gi, at2_0, at2_1]); (try dsimp only [Ty.den]); try simp only [natc] at *)
        (repeat' (first | apply And.intro | intro _))
        all_goals (try simp only [gz, g1])
        all_goals (try (show _ = min 1 n; simp only [List.length_cons, List.length_nil]; omega))
        all_goals (by_cases hz : n = 0)
        all_goals first | omega | (rw [g5 hz, g3 hz]; done) | (rw [g4 hz, g2 (by omega)]; done) | trace_state
      · intro m hm2
        have g1 := rp_len (x := x) hm2.1 hm2.2.1
        have g2 := rp_step (x := x) hm2.1 hm2.2.1
        have g3 : ((subL (rp x n m) 0 m).length : Int) = m := by unfold subL; rw [List.length_drop, List.length_take]; omega
        have g4 : m = n → rp x n m = List.replicate n.toNat x := fun h => by subst h; simp [rp]
        rw [← g1] at g2
        cbv
        ((try simp only [IfP_iff, and_true, true_and, decide_eq_true_eq, decide_eq_false_iff_not]); (try simp only [natc, getI_gi, at2_0, at2_1]); (try dsimp only [Ty.den]); (try simp only [natc] at *); (repeat' (first | apply And.intro | intro _)))
        all_goals (try (simp only [IfP_iff, EqU_iff, Obl_iff, and_true, true_and, inI_iff, decide_eq_true_eq, decide_eq_false_iff_not]; (try simp only [natc, getI_gi, at2_0, at2_1]); (try dsimp only [Ty.den]); try simp only [natc] at *))
        all_goals ((repeat' (first | apply And.intro | intro _)) <;> first | omega | (simp only [g1, g3] at *; omega) | grind)
    all_goals (try (simp only [IfP_iff, EqU_iff, Obl_iff, and_true, true_and, inI_iff, decide_eq_true_eq, decide_eq_false_iff_not]; (try simp only [natc, getI_gi, at2_0, at2_1]); (try dsimp only [Ty.den]); try simp only [natc] at *))
    all_goals ((repeat' (first | apply And.intro | intro _)) <;> first | omega | (simp only [List.length_append, List.length_cons, List.length_nil]; omega) | grind)
  all_goals (try (simp only [IfP_iff, EqU_iff, Obl_iff, and_true, true_and, inI_iff, decide_eq_true_eq, decide_eq_false_iff_not]; (try simp only [natc, getI_gi, at2_0, at2_1]); (try dsimp only [Ty.den]); try simp only [natc] at *))
  all_goals ((repeat' (first | apply And.intro | intro _)) <;> first | omega | (simp only [List.length_append, List.length_cons, List.length_nil]; omega) | grind)
end Go.Proofs.Ytemdajfcfmefnaa.M

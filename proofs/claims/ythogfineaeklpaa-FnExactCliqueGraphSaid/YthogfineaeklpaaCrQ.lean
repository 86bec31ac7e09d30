/- What the laws ask of a Graph that is returned. -/
import Derived.Test.YthogfineaeklpaaQe
import Derived.Test.YthogfineaeklpaaQg
namespace Go.Proofs.Ythogfineaeklpaa.M
open Go.RowKit Abs
set_option linter.unusedSimpArgs false
set_option linter.unusedVariables false
set_option maxRecDepth 100000
set_option maxHeartbeats 4000000
theorem at2_marks {k0 : Int} {n : Nat} {i j : Int} (i0 : 0 ≤ i) (i1 : i < (n : Int)) (j0 : 0 ≤ j) (j1 : j < 2) : at2 (getI (.pr .int .int) (marksP k0 n) i) j = k0 + i * 2 + j := by
  have e : getI (.pr .int .int) (marksP k0 n) i = (k0 + i * 2, k0 + i * 2 + 1) := by
    have h := getI_get (t := (.pr .int .int)) (l := marksP k0 n) (i := i) i0 (by rw [marksP_len]; exact i1)
    have h2 : (marksP k0 n)[i.toNat]? = some (k0 + i * 2, k0 + i * 2 + 1) := by
      unfold marksP
      rw [List.getElem?_map, List.getElem?_range (by omega)]
      simp only [Option.map_some, Option.some.injEq, Prod.mk.injEq]
      omega
    rw [h2] at h
    exact (Option.some.inj h).symm
  rw [e]
  unfold at2
  split <;> omega
theorem la_markGraph2 (n : Int) (l : List (Int × Int)) (k0 : Int) (h0 : 0 ≤ k0) (h1 : k0 ≤ 1000000000) (hl : l.length ≤ 1048576) : Spec2 Try.prog 28 [.cells [.int fun _ => n, .ref 0], .int fun _ => k0] [some (.row 70 (.pr .int .int) fun _ => l)] [.int fun _ => k0 + l.length * 2] [some (.row 70 (.pr .int .int) fun _ => marksP k0 l.length)] := by
  refine fnS [0] [4] Try.func28 rfl (by decide) rfl (by decide) (by kernel_rfl) rfl (by simp [Try.ntmps28]) ?_
  cbv
  (refine call_own 0 (la_markPairs l k0 h0 h1 hl) (by cbv) (by cbv; simp only [or_true, true_or, and_true]) ?_; cbv; ((try simp only [IfP_iff, and_true, true_and, decide_eq_true_eq, decide_eq_false_iff_not]); (try simp only [natc, getI_gi, at2_0, at2_1]); (try dsimp only [Ty.den]); (try simp only [natc] at *); (repeat' (first | apply And.intro | intro _))))
  all_goals (try (simp only [IfP_iff, EqU_iff, Obl_iff, and_true, true_and, inI_iff, decide_eq_true_eq, decide_eq_false_iff_not]; (try simp only [natc, getI_gi, at2_0, at2_1]); (try dsimp only [Ty.den]); try simp only [natc] at *))
  all_goals ((repeat' (first | apply And.intro | intro _)) <;> first | omega | trace_state)
theorem la_heldPairs (l : List (Int × Int)) (n : Nat) (k0 : Int) (he : l = marksP k0 n) (h0 : 0 ≤ k0) (h1 : k0 ≤ 1000000000) (hl : n ≤ 1048576) : Spec2 Try.prog 71 [.sl (.pr .int .int) fun _ => l, .int fun _ => k0] [] [.int fun _ => k0 + n * 2] [] := by
  have hn : l.length = n := by rw [he]; exact marksP_len _ _
  have hv : ∀ i j : Int, 0 ≤ i → i < (n : Int) → 0 ≤ j → j < 2 → at2 (getI (.pr .int .int) l i) j = k0 + i * 2 + j := fun i j a b c d => by rw [he]; exact at2_marks a b c d
  refine fnS [] [4] Try.func71 rfl (by decide) rfl (by decide) (by kernel_rfl) rfl (by simp [Try.ntmps71]) ?_
  cbv
  refine loopP (by kernel_rfl) (fun i : Int => 0 ≤ i ∧ i ≤ n) (fun i => [(5, .int fun _ => i), (1, .int fun _ => k0 + i * 2)]) (fun _ => []) (fun i => (n - i).toNat) (· + 1) 0 (by omega) ?_ ?_
  · cbv
    (simp only [IfP_iff, EqU_iff, Obl_iff, and_true, true_and, inI_iff, decide_eq_true_eq, decide_eq_false_iff_not]; (try simp only [natc, getI_gi, at2_0, at2_1]); (try dsimp only [Ty.den]); try simp only [natc] at *)
    omega
  · intro i hi
    have hv2 := fun j a => hv i j hi.1 a
    cbv
    ((try simp only [IfP_iff, and_true, true_and, decide_eq_true_eq, decide_eq_false_iff_not]); (try simp only [natc, getI_gi, at2_0, at2_1]); (try dsimp only [Ty.den]); (try simp only [natc] at *); (repeat' (first | apply And.intro | intro _)))
    · refine loopP (by kernel_rfl) (fun j : Int => 0 ≤ j ∧ j ≤ 2) (fun j => [(6, .int fun _ => j), (1, .int fun _ => k0 + i * 2 + j)]) (fun _ => []) (fun j => (2 - j).toNat) (· + 1) 0 (by omega) ?_ ?_
      · cbv
        (simp only [IfP_iff, EqU_iff, Obl_iff, and_true, true_and, inI_iff, decide_eq_true_eq, decide_eq_false_iff_not]; (try simp only [natc, getI_gi, at2_0, at2_1]); (try dsimp only [Ty.den]); try simp only [natc] at *)
        omega
      · intro j hj
        have hv3 := fun a => hv2 j a hj.1
        clear hv hv2
        cbv
        ((try simp only [IfP_iff, and_true, true_and, decide_eq_true_eq, decide_eq_false_iff_not]); (try simp only [natc, getI_gi, at2_0, at2_1]); (try dsimp only [Ty.den]); (try simp only [natc] at *); (repeat' (first | apply And.intro | intro _)))
        all_goals (try (simp only [IfP_iff, EqU_iff, Obl_iff, and_true, true_and, inI_iff, decide_eq_true_eq, decide_eq_false_iff_not]; (try simp only [natc, getI_gi, at2_0, at2_1]); (try dsimp only [Ty.den]); try simp only [natc] at *))
        all_goals ((repeat' (first | apply And.intro | intro _)) <;> first | omega | (exfalso; have h9 := hv3 (by omega) (by omega); simp_all; done) | trace_state)
    all_goals (try (simp only [IfP_iff, EqU_iff, Obl_iff, and_true, true_and, inI_iff, decide_eq_true_eq, decide_eq_false_iff_not]; (try simp only [natc, getI_gi, at2_0, at2_1]); (try dsimp only [Ty.den]); try simp only [natc] at *))
    all_goals ((repeat' (first | apply And.intro | intro _)) <;> first | omega | trace_state)
theorem la_heldGraph (m : Int) (l : List (Int × Int)) (n : Nat) (k0 : Int) (he : l = marksP k0 n) (h0 : 0 ≤ k0) (h1 : k0 ≤ 1000000000) (hl : n ≤ 1048576) : Spec2 Try.prog 33 [.agg (.pr .int (.sl (.pr .int .int))) fun _ => (m, l), .int fun _ => k0] [] [.int fun _ => k0 + n * 2] [] := by
  refine fnS [] [4] Try.func33 rfl (by decide) rfl (by decide) (by kernel_rfl) rfl (by simp [Try.ntmps33]) ?_
  cbv
  ((first | refine call_q (la_heldPairs l n k0 he h0 h1 hl) (by cbv) ?_ | refine call_pure (la_heldPairs l n k0 he h0 h1 hl) (by cbv) ?_); cbv; ((try simp only [IfP_iff, and_true, true_and, decide_eq_true_eq, decide_eq_false_iff_not]); (try simp only [natc, getI_gi, at2_0, at2_1]); (try dsimp only [Ty.den]); (try simp only [natc] at *); (repeat' (first | apply And.intro | intro _))))
  all_goals (try (simp only [IfP_iff, EqU_iff, Obl_iff, and_true, true_and, inI_iff, decide_eq_true_eq, decide_eq_false_iff_not]; (try simp only [natc, getI_gi, at2_0, at2_1]); (try dsimp only [Ty.den]); try simp only [natc] at *))
  all_goals ((repeat' (first | apply And.intro | intro _)) <;> first | omega | trace_state)
end Go.Proofs.Ythogfineaeklpaa.M

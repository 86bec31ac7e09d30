/- Copies of formulas, in the program. -/
import Derived.Test.YtcgeedklfejhbaaIfQ
import Derived.Test.YtcgeedklfejhbaaDfQ
import Derived.Test.YtcgeedklfejhbaaNrQ
import Derived.Test.YtcgeedklfejhbaaGlQ
import Derived.Test.YtcgeedklfejhbaaQc
namespace Go.Proofs.Ytcgeedklfejhbaa.M
open Go.RowKit Abs
set_option linter.unusedSimpArgs false
set_option linter.unusedVariables false
set_option maxRecDepth 100000
set_option maxHeartbeats 4000000
theorem take_nextR {L : List (List Int)} {k : Int} (h0 : 0 ≤ k) (h1 : k < (L.length : Int)) : L.take (k + 1).toNat = L.take k.toNat ++ [getR .int L k] := by
  have e : (k + 1).toNat = k.toNat + 1 := by omega
  rw [e, List.take_add_one, getR_get (t := .int) h0 h1]
  rfl
theorem im_copyOf (n : Int) (L : List (List Int)) (hL : L.length ≤ 1048576) (hm : ∀ r ∈ L, r.length ≤ 1048576) : Spec2 Try.prog 52 [.cells [.int fun _ => n, .sl (.sl .int) fun _ => L]] [] [.cells [.int fun _ => n, .ref 0]] [some (.rows 25 3 .int fun _ => L)] := by
  have hrow : ∀ k : Int, 0 ≤ k → k < L.length → (getR .int L k).length ≤ 1048576 := fun k h0 h1 => hm _ (List.mem_of_getElem? (getR_get (t := .int) h0 h1))
  refine fnGE [5] [.cst 2 2 27] Try.func52 rfl (by decide) rfl (by kernel_rfl) (.inl rfl) (by kernel_rfl) (Nat.zero_le _) (by simp [Try.ntmps52]) ?_
  cbv
  all_goals (try (simp only [IfP_iff, EqU_iff, Obl_iff, and_true, true_and, inI_iff, decide_eq_true_eq, decide_eq_false_iff_not]; (try simp only [natc, getI_gi, at2_0, at2_1]); (try dsimp only [Ty.den]); try simp only [natc] at *))
  refine LoopL.nilR 25 3 .int [.box 2 1] ?_
  refine loopE [5] (by kernel_rfl) (fun k : Int => 0 ≤ k ∧ k ≤ L.length) (fun k => [(12, .int fun _ => k)]) (fun k => [(3, some (.rows 25 3 .int fun _ => L.take k.toNat)), (2, some (.box 27 [.int fun _ => n, .ref 3]))]) (fun k => (L.length - k).toNat) (· + 1) 0 (by omega) ?_ ?_
  · cbv
    (simp only [IfP_iff, EqU_iff, Obl_iff, and_true, true_and, inI_iff, decide_eq_true_eq, decide_eq_false_iff_not]; (try simp only [natc, getI_gi, at2_0, at2_1]); (try dsimp only [Ty.den]); try simp only [natc] at *)
    simp
  · intro k hk
    have i1 := take_nextR (L := L) (k := k) hk.1
    have i2 := hrow k hk.1
    have i3 : (L.take k.toNat).length ≤ 1048576 := by rw [List.length_take]; omega
    have i4 : ¬ k < (L.length : Int) → L.take k.toNat = L := fun h => List.take_of_length_le (by omega)
    clear hrow
    cbv
    ((try simp only [IfP_iff, and_true, true_and, decide_eq_true_eq, decide_eq_false_iff_not]); (try simp only [natc, getI_gi, at2_0, at2_1]); (try dsimp only [Ty.den]); (try simp only [natc] at *); (repeat' (first | apply And.intro | intro _)))
    · (simp only [IfP_iff, EqU_iff, Obl_iff, and_true, true_and, inI_iff, decide_eq_true_eq, decide_eq_false_iff_not]; (try simp only [natc, getI_gi, at2_0, at2_1]); (try dsimp only [Ty.den]); try simp only [natc] at *)
      omega
    · refine DrawL.layersS [(3, fun S => S.new (some 19) (.ref S.H.length) (.row 3 .int fun _ => getR .int L k))] [2] (fun _ _ => none) [([false, false, true, false, false, false, false, false], [0, 3]), ([true, false, true, false, false, false, false, false], [1, 3]), ([false, false, true, true, false, false, false, false], [0, 4]), ([true, true, true, false, false, false, false, false], [3]), ([true, false, true, true, false, false, false, false], [1, 4]), ([false, false, true, true, true, false, false, false], [0]), ([true, true, true, true, false, false, false, false], [4]), ([true, false, true, true, true, false, false, false], [1]), ([true, true, true, true, true, false, false, false], [5]), ([true, true, true, true, true, true, false, false], [6]), ([true, true, true, true, true, true, true, false], [7]), ([true, true, true, true, true, true, true, true], [])] (by kernel_rfl) (by rfl) ?_
      · cbv
        (repeat' (first | apply And.intro | apply EqU.mk))
        all_goals (try trivial)
        all_goals (try (((first | refine call_q (go_clone (getI (.sl .int) L k) (i2 (by assumption))) (by cbv) ?_ | refine call_pure (go_clone (getI (.sl .int) L k) (i2 (by assumption))) (by cbv) ?_); cbv; ((try simp only [IfP_iff, and_true, true_and, decide_eq_true_eq, decide_eq_false_iff_not]); (try simp only [natc, getI_gi, at2_0, at2_1]); (try dsimp only [Ty.den]); (try simp only [natc] at *); (repeat' (first | apply And.intro | intro _))))))
        all_goals (try (first | trivial | rfl))
        all_goals (try (simp only [IfP_iff, EqU_iff, Obl_iff, and_true, true_and, inI_iff, decide_eq_true_eq, decide_eq_false_iff_not]; (try simp only [natc, getI_gi, at2_0, at2_1]); (try dsimp only [Ty.den]); try simp only [natc] at *))
        · rw [List.length_cons, List.length_nil]
          omega
        · omega
        · omega
        · exact (i1 (by assumption)).symm
    · refine EndG.plain [3] ?_
      cbv
      (simp only [IfP_iff, EqU_iff, Obl_iff, and_true, true_and, inI_iff, decide_eq_true_eq, decide_eq_false_iff_not]; (try simp only [natc, getI_gi, at2_0, at2_1]); (try dsimp only [Ty.den]); try simp only [natc] at *)
      rw [i4 (by assumption)]
end Go.Proofs.Ytcgeedklfejhbaa.M

/- Parities in laws. -/
import Derived.Test.YtcgeedklfejhbaaIpQ
import Derived.Test.YtcgeedklfejhbaaQe
import Derived.Test.YtcgeedklfejhbaaQc
namespace Go.Proofs.Ytcgeedklfejhbaa.M
open Go.RowKit Abs
set_option linter.unusedSimpArgs false
set_option linter.unusedVariables false
set_option maxRecDepth 100000
set_option maxHeartbeats 4000000
def szP (L : List (List Int)) (R : List Int) (k : Int) : Int := if sizeL L k < 0 then -1 else if (R.length : Int) ≤ sizeL L k then sizeL L k - R.length else -1
theorem sizeL_le {L : List (List Int)} {k : Int} (h0 : 0 ≤ k) (h : 0 ≤ sizeL L k) : sizeL L k ≤ k ∧ L.length ≤ k ∧ ∀ s ∈ L, (s.length : Int) ≤ k := by
  unfold sizeL at *
  split at h
  · rename_i hl
    rw [if_pos hl]
    have := rowsLeft_le L (k - L.length) (by omega) h
    exact ⟨by omega, hl, fun s hs => by have := this.1 s hs; omega⟩
  · omega
theorem la_szParity (n : Int) (L : List (List Int)) (R : List Int) (k : Int) (h0 : 0 ≤ k) (h1 : k ≤ 1048576) (hl : L.length ≤ 9223372036854775807) (hm : ∀ s ∈ L, s.length ≤ 9223372036854775807) (hR : R.length ≤ 9223372036854775807) : Spec2 Try.prog 22 [.cells [.int fun _ => n, .sl (.sl .int) fun _ => L, .sl .int fun _ => R], .int fun _ => k] [] [.int fun _ => szP L R k] [] := by
  have h9 : szP L R k = _ := rfl
  conv at h9 => rhs; unfold szP
  have h8 : ¬ sizeL L k < 0 → 0 ≤ sizeL L k ∧ sizeL L k ≤ 1048576 := fun h => by
    have := sizeL_le h0 (by omega : 0 ≤ sizeL L k)
    omega
  refine fnS [] [4] Try.func22 rfl (by decide) rfl (by decide) (by kernel_rfl) rfl (by simp [Try.ntmps22]) ?_
  cbv
  ((try simp only [IfP_iff, and_true, true_and, decide_eq_true_eq, decide_eq_false_iff_not]); (try simp only [natc, getI_gi, at2_0, at2_1]); (try dsimp only [Ty.den]); (try simp only [natc] at *); (repeat' (first | apply And.intro | intro _)))
  all_goals (repeat' (first | ((first | refine call_q (la_szRows L k h0 h1 hl hm) (by cbv) ?_ | refine call_pure (la_szRows L k h0 h1 hl hm) (by cbv) ?_); cbv; ((try simp only [IfP_iff, and_true, true_and, decide_eq_true_eq, decide_eq_false_iff_not]); (try simp only [natc, getI_gi, at2_0, at2_1]); (try dsimp only [Ty.den]); (try simp only [natc] at *); (repeat' (first | apply And.intro | intro _))))))
  all_goals (try (simp only [IfP_iff, EqU_iff, Obl_iff, and_true, true_and, inI_iff, decide_eq_true_eq, decide_eq_false_iff_not]; (try simp only [natc, getI_gi, at2_0, at2_1]); (try dsimp only [Ty.den]); try simp only [natc] at *))
  ((try simp only [IfP_iff, and_true, true_and, decide_eq_true_eq, decide_eq_false_iff_not]); (try simp only [natc, getI_gi, at2_0, at2_1]); (try dsimp only [Ty.den]); (try simp only [natc] at *); (repeat' (first | apply And.intro | intro _)))
  all_goals (repeat' (first | ((first | refine call_q (la_szInts R (sizeL L k) (h8 (by omega)).1 (h8 (by omega)).2 hR) (by cbv) ?_ | refine call_pure (la_szInts R (sizeL L k) (h8 (by omega)).1 (h8 (by omega)).2 hR) (by cbv) ?_); cbv; ((try simp only [IfP_iff, and_true, true_and, decide_eq_true_eq, decide_eq_false_iff_not]); (try simp only [natc, getI_gi, at2_0, at2_1]); (try dsimp only [Ty.den]); (try simp only [natc] at *); (repeat' (first | apply And.intro | intro _))))))
  all_goals (try clear hm)
  all_goals (try (simp only [IfP_iff, EqU_iff, Obl_iff, and_true, true_and, inI_iff, decide_eq_true_eq, decide_eq_false_iff_not]; (try simp only [natc, getI_gi, at2_0, at2_1]); (try dsimp only [Ty.den]); try simp only [natc] at *))
  all_goals ((repeat' (first | apply And.intro | intro _)) <;> first | omega | (simp only [List.length_append, List.length_cons, List.length_nil]; omega) | grind)
theorem la_toParity (n : Int) (L : List (List Int)) (R : List Int) (hL : L.length ≤ 1048576) (hm : ∀ s ∈ L, s.length ≤ 1048576) (hR : R.length ≤ 1048576) : Spec2 Try.prog 24 [.cells [.int fun _ => n, .sl (.sl .int) fun _ => L, .sl .int fun _ => R]] [] [.cells [.int fun _ => n, .ref 0, .ref 1]] [some (.rows 25 3 .int fun _ => L), some (.row 3 .int fun _ => R)] := by
  refine fnG [.cst 2 3 41] Try.func24 rfl (by decide) rfl (by kernel_rfl) (.inl rfl) (by kernel_rfl) (Nat.zero_le _) (by simp [Try.ntmps24]) ?_
  cbv
  ((try simp only [IfP_iff, and_true, true_and, decide_eq_true_eq, decide_eq_false_iff_not]); (try simp only [natc, getI_gi, at2_0, at2_1]); (try dsimp only [Ty.den]); (try simp only [natc] at *); (repeat' (first | apply And.intro | intro _)))
  all_goals (repeat' (first | ((first | refine call_q (la_toRows L hL hm) (by cbv) ?_ | refine call_pure (la_toRows L hL hm) (by cbv) ?_); cbv; ((try simp only [IfP_iff, and_true, true_and, decide_eq_true_eq, decide_eq_false_iff_not]); (try simp only [natc, getI_gi, at2_0, at2_1]); (try dsimp only [Ty.den]); (try simp only [natc] at *); (repeat' (first | apply And.intro | intro _)))) | ((first | refine call_q (la_toInts R hR) (by cbv) ?_ | refine call_pure (la_toInts R hR) (by cbv) ?_); cbv; ((try simp only [IfP_iff, and_true, true_and, decide_eq_true_eq, decide_eq_false_iff_not]); (try simp only [natc, getI_gi, at2_0, at2_1]); (try dsimp only [Ty.den]); (try simp only [natc] at *); (repeat' (first | apply And.intro | intro _))))))
  all_goals (try (simp only [IfP_iff, EqU_iff, Obl_iff, and_true, true_and, inI_iff, decide_eq_true_eq, decide_eq_false_iff_not]; (try simp only [natc, getI_gi, at2_0, at2_1]); (try dsimp only [Ty.den]); try simp only [natc] at *))
  refine EndG.plain [3, 4] ?_
  cbv
  (simp only [IfP_iff, EqU_iff, Obl_iff, and_true, true_and, inI_iff, decide_eq_true_eq, decide_eq_false_iff_not]; (try simp only [natc, getI_gi, at2_0, at2_1]); (try dsimp only [Ty.den]); try simp only [natc] at *)
theorem la_eqParity (n : Int) (L : List (List Int)) (R : List Int) (hL : L.length ≤ 1048576) (hm : ∀ k : Int, 0 ≤ k → k < L.length → (getR .int L k).length ≤ 1048576) (hR : R.length ≤ 1048576) : Spec2 Try.prog 26 [.agg TPa fun _ => (n, L, R), .agg TPa fun _ => (n, L, R)] [] [.bool fun _ => true] [] := by
  refine fnS [] [4] Try.func26 rfl (by decide) rfl (by decide) (by kernel_rfl) rfl (by simp [Try.ntmps26]) ?_
  cbv
  ((try simp only [IfP_iff, and_true, true_and, decide_eq_true_eq, decide_eq_false_iff_not]); (try simp only [natc, getI_gi, at2_0, at2_1]); (try dsimp only [Ty.den]); (try simp only [natc] at *); (repeat' (first | apply And.intro | intro _)))
  all_goals (repeat' (first | ((first | refine call_q (la_sameRows L L rfl hL hm) (by cbv) ?_ | refine call_pure (la_sameRows L L rfl hL hm) (by cbv) ?_); cbv; ((try simp only [IfP_iff, and_true, true_and, decide_eq_true_eq, decide_eq_false_iff_not]); (try simp only [natc, getI_gi, at2_0, at2_1]); (try dsimp only [Ty.den]); (try simp only [natc] at *); (repeat' (first | apply And.intro | intro _)))) | ((first | refine call_q (la_same R hR) (by cbv) ?_ | refine call_pure (la_same R hR) (by cbv) ?_); cbv; ((try simp only [IfP_iff, and_true, true_and, decide_eq_true_eq, decide_eq_false_iff_not]); (try simp only [natc, getI_gi, at2_0, at2_1]); (try dsimp only [Ty.den]); (try simp only [natc] at *); (repeat' (first | apply And.intro | intro _))))))
  all_goals (try (simp only [IfP_iff, EqU_iff, Obl_iff, and_true, true_and, inI_iff, decide_eq_true_eq, decide_eq_false_iff_not]; (try simp only [natc, getI_gi, at2_0, at2_1]); (try dsimp only [Ty.den]); try simp only [natc] at *))
  all_goals ((repeat' (first | apply And.intro | intro _)) <;> first | omega | (simp only [List.length_append, List.length_cons, List.length_nil]; omega) | grind | (simp at *; done))
theorem la_markParity (n : Int) (L : List (List Int)) (R : List Int) (k0 : Int) (h0 : 0 ≤ k0) (h1 : k0 + totR L ≤ 1000000000) (hl : L.length ≤ 1048576) (hm : ∀ k : Int, 0 ≤ k → k < L.length → (getR .int L k).length ≤ 1048576) (hR : R.length ≤ 1048576) : Spec2 Try.prog 29 [.cells [.int fun _ => n, .ref 0, .ref 1], .int fun _ => k0] [some (.rows 25 3 .int fun _ => L), some (.row 3 .int fun _ => R)] [.int fun _ => k0 + totR L + R.length] [some (.rows 25 3 .int fun _ => mrk k0 L), some (.row 3 .int fun _ => marks (k0 + totR L) R.length)] := by
  have g := totR_nn L
  refine fnS [0, 1] [4] Try.func29 rfl (by decide) rfl (by decide) (by kernel_rfl) rfl (by simp [Try.ntmps29]) ?_
  cbv
  (refine call_own 0 (la_markRows L k0 h0 h1 hl hm) (by cbv) (by cbv; simp only [or_true, true_or, and_true]) ?_; cbv; ((try simp only [IfP_iff, and_true, true_and, decide_eq_true_eq, decide_eq_false_iff_not]); (try simp only [natc, getI_gi, at2_0, at2_1]); (try dsimp only [Ty.den]); (try simp only [natc] at *); (repeat' (first | apply And.intro | intro _))))
  all_goals (try (simp only [IfP_iff, EqU_iff, Obl_iff, and_true, true_and, inI_iff, decide_eq_true_eq, decide_eq_false_iff_not]; (try simp only [natc, getI_gi, at2_0, at2_1]); (try dsimp only [Ty.den]); try simp only [natc] at *))
  (refine call_own 1 (la_markInts R (k0 + totR L) (by omega) (by omega) hR) (by cbv) (by cbv; simp only [or_true, true_or, and_true]) ?_; cbv; ((try simp only [IfP_iff, and_true, true_and, decide_eq_true_eq, decide_eq_false_iff_not]); (try simp only [natc, getI_gi, at2_0, at2_1]); (try dsimp only [Ty.den]); (try simp only [natc] at *); (repeat' (first | apply And.intro | intro _))))
  all_goals (try (simp only [IfP_iff, EqU_iff, Obl_iff, and_true, true_and, inI_iff, decide_eq_true_eq, decide_eq_false_iff_not]; (try simp only [natc, getI_gi, at2_0, at2_1]); (try dsimp only [Ty.den]); try simp only [natc] at *))
end Go.Proofs.Ytcgeedklfejhbaa.M

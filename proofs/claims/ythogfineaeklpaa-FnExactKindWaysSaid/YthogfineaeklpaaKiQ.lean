/- Whether a set has a kind, in the program. -/
import Derived.Test.YthogfineaeklpaaKpQ
import Derived.Test.YthogfineaeklpaaQg
import Derived.Test.YthogfineaeklpaaDeQ
import Derived.Test.YthogfineaeklpaaPjQ
namespace Go.Proofs.Ythogfineaeklpaa.M
open Go.RowKit Abs
set_option linter.unusedSimpArgs false
set_option linter.unusedVariables false
set_option maxRecDepth 100000
set_option maxHeartbeats 4000000
theorem im_change (m x : Int) (h0 : 0 ≤ m) (h1 : m ≤ 255) (h2 : 0 ≤ x) (h3 : x < 8) : Spec2 Try.prog 76 [.u64 fun _ => m, .int fun _ => x] [] [.u64 fun _ => bxor m (1 * 2 ^ (min x.toNat 64))] [] := by
  have g1 := sh_in x h2 h3
  refine fnS [] [4] Try.func76 rfl (by decide) rfl (by decide) (by kernel_rfl) rfl (by simp [Try.ntmps76]) ?_
  cbv
  ((try simp only [IfP_iff, and_true, true_and, decide_eq_true_eq, decide_eq_false_iff_not]); (try simp only [natc, getI_gi, at2_0, at2_1]); (try dsimp only [Ty.den]); (try simp only [natc] at *); (repeat' (first | apply And.intro | intro _)))
  all_goals (try (simp only [IfP_iff, EqU_iff, Obl_iff, and_true, true_and, inI_iff, decide_eq_true_eq, decide_eq_false_iff_not]; (try simp only [natc, getI_gi, at2_0, at2_1]); (try dsimp only [Ty.den]); try simp only [natc] at *))
  all_goals ((repeat' (first | apply And.intro | intro _)) <;> first | omega | (simp only [List.length_append, List.length_cons, List.length_nil]; omega) | grind)
theorem im_allows (kind : Int) (R : List Int) (m x : Int) (hR : R.length ≤ 8) (hr : 0 ≤ (getI .u64 R x : Int) ∧ (getI .u64 R x : Int) ≤ 255) (m0 : 0 ≤ m) (m1 : m ≤ 255) (x0 : 0 ≤ x) (x1 : x < R.length) : Spec2 Try.prog 103 [.cells [.int fun _ => kind, .sl .u64 fun _ => R], .u64 fun _ => m, .int fun _ => x] [] [.bool fun _ => allowsB kind R m x] [] := by
  have h9 : allowsB kind R m x = _ := rfl
  conv at h9 => rhs; unfold allowsB
  have b1 := bxor_in (a := m) m1 x0 (by omega)
  refine fnS [] [6] Try.func103 rfl (by decide) rfl (by decide) (by kernel_rfl) rfl (by simp [Try.ntmps103]) ?_
  cbv
  ((try simp only [IfP_iff, and_true, true_and, decide_eq_true_eq, decide_eq_false_iff_not]); (try simp only [natc, getI_gi, at2_0, at2_1]); (try dsimp only [Ty.den]); (try simp only [natc] at *); (repeat' (first | apply And.intro | intro _)))
  all_goals (repeat' (first | ((first | refine call_q (im_has m x m0 (by omega) x0 (by omega)) (by cbv) ?_ | refine call_pure (im_has m x m0 (by omega) x0 (by omega)) (by cbv) ?_); cbv; ((try simp only [IfP_iff, and_true, true_and, decide_eq_true_eq, decide_eq_false_iff_not]); (try simp only [natc, getI_gi, at2_0, at2_1]); (try dsimp only [Ty.den]); (try simp only [natc] at *); (repeat' (first | apply And.intro | intro _)))) | ((first | refine call_q (im_change m x m0 m1 x0 (by omega)) (by cbv) ?_ | refine call_pure (im_change m x m0 m1 x0 (by omega)) (by cbv) ?_); cbv; ((try simp only [IfP_iff, and_true, true_and, decide_eq_true_eq, decide_eq_false_iff_not]); (try simp only [natc, getI_gi, at2_0, at2_1]); (try dsimp only [Ty.den]); (try simp only [natc] at *); (repeat' (first | apply And.intro | intro _))))))
  all_goals (try (simp only [IfP_iff, EqU_iff, Obl_iff, and_true, true_and, inI_iff, decide_eq_true_eq, decide_eq_false_iff_not]; (try simp only [natc, getI_gi, at2_0, at2_1]); (try dsimp only [Ty.den]); try simp only [natc] at *))
  all_goals ((repeat' (first | apply And.intro | intro _)) <;> first | omega | (simp only [List.length_append, List.length_cons, List.length_nil]; omega) | grind)
theorem im_holdsK (kind : Int) (R : List Int) (m : Int) (hR : R.length ≤ 8) (hr : ∀ x : Int, 0 ≤ x → x < R.length → 0 ≤ (getI .u64 R x : Int) ∧ (getI .u64 R x : Int) ≤ 255) (m0 : 0 ≤ m) (m1 : m ≤ 255) : Spec2 Try.prog 60 [.cells [.int fun _ => kind, .sl .u64 fun _ => R], .u64 fun _ => m] [] [.bool fun _ => holdsK kind R m] [] := by
  have h9 : holdsK kind R m = _ := rfl
  conv at h9 => rhs; unfold holdsK
  refine fnS [] [4] Try.func60 rfl (by decide) rfl (by decide) (by kernel_rfl) rfl (by simp [Try.ntmps60]) ?_
  cbv
  refine loopP (by kernel_rfl) (fun k : Int => 0 ≤ k ∧ k ≤ R.length ∧ ∀ j : Int, 0 ≤ j → j < k → allowsB kind R m j = true) (fun k => [(9, .int fun _ => k)]) (fun _ => []) (fun k => (R.length - k).toNat) (· + 1) 0 (by grind) ?_ ?_
  · cbv
    (simp only [IfP_iff, EqU_iff, Obl_iff, and_true, true_and, inI_iff, decide_eq_true_eq, decide_eq_false_iff_not]; (try simp only [natc, getI_gi, at2_0, at2_1]); (try dsimp only [Ty.den]); try simp only [natc] at *)
  · intro k hk
    have h1 := allI_bad (n := R.length) (p := allowsB kind R m) (k := k)
    have h2 := allI_good (n := R.length) (p := allowsB kind R m)
    have h3 := upTo (p := allowsB kind R m) hk.2.2
    cbv
    ((try simp only [IfP_iff, and_true, true_and, decide_eq_true_eq, decide_eq_false_iff_not]); (try simp only [natc, getI_gi, at2_0, at2_1]); (try dsimp only [Ty.den]); (try simp only [natc] at *); (repeat' (first | apply And.intro | intro _)))
    all_goals (repeat' (first | ((first | refine call_q (Spec2.agg (t := .pr .int (.sl .u64)) (x := fun _ => (kind, R)) (im_allows kind R m k hR (hr k hk.1 (by assumption)) m0 m1 hk.1 (by assumption))) (by cbv) ?_ | refine call_pure (Spec2.agg (t := .pr .int (.sl .u64)) (x := fun _ => (kind, R)) (im_allows kind R m k hR (hr k hk.1 (by assumption)) m0 m1 hk.1 (by assumption))) (by cbv) ?_); cbv; ((try simp only [IfP_iff, and_true, true_and, decide_eq_true_eq, decide_eq_false_iff_not]); (try simp only [natc, getI_gi, at2_0, at2_1]); (try dsimp only [Ty.den]); (try simp only [natc] at *); (repeat' (first | apply And.intro | intro _))))))
    all_goals (try clear hr)
    all_goals (try (simp only [IfP_iff, EqU_iff, Obl_iff, and_true, true_and, inI_iff, decide_eq_true_eq, decide_eq_false_iff_not]; (try simp only [natc, getI_gi, at2_0, at2_1]); (try dsimp only [Ty.den]); try simp only [natc] at *))
    all_goals ((repeat' (first | apply And.intro | intro _)) <;> first | omega | (simp only [List.length_append, List.length_cons, List.length_nil]; omega) | grind)
def okK (n : Int) (l : List (Int × Int)) (kind : Int) : Bool := graphOk n l && (decide (1 ≤ kind) && decide (kind ≤ 3))
theorem im_rule_bad (n kind : Int) (l : List (Int × Int)) (hl : l.length ≤ 1048576) (hb : okK n l kind = false) : Spec2 Try.prog 58 [.agg (.pr .int (.sl (.pr .int .int))) fun _ => (n, l), .int fun _ => kind] [] [.cells [.int fun _ => 0, .nilsl], .bool fun _ => false] [] := by
  refine fnGE [7] [.cst 4 2 58, .tmp 5] Try.func58 rfl (by decide) rfl (by kernel_rfl) (.inr (.inl rfl)) (by kernel_rfl) (Nat.zero_le _) (by simp [Try.ntmps58]) ?_
  cbv
  repeat' (first | ((first | refine call_q (im_graph n l hl) (by cbv) ?_ | refine call_pure (im_graph n l hl) (by cbv) ?_); cbv; ((try simp only [IfP_iff, and_true, true_and, decide_eq_true_eq, decide_eq_false_iff_not]); (try simp only [natc, getI_gi, at2_0, at2_1]); (try dsimp only [Ty.den]); (try simp only [natc] at *); (repeat' (first | apply And.intro | intro _)))))
  all_goals (try (simp only [IfP_iff, EqU_iff, Obl_iff, and_true, true_and, inI_iff, decide_eq_true_eq, decide_eq_false_iff_not]; (try simp only [natc, getI_gi, at2_0, at2_1]); (try dsimp only [Ty.den]); try simp only [natc] at *))
  iterate 3
    · refine EndG.plain [] ?_
      cbv
      (simp only [IfP_iff, EqU_iff, Obl_iff, and_true, true_and, inI_iff, decide_eq_true_eq, decide_eq_false_iff_not]; (try simp only [natc, getI_gi, at2_0, at2_1]); (try dsimp only [Ty.den]); try simp only [natc] at *)
  exfalso
  unfold okK at hb
  grind
theorem map_take_next {R : List (List Int)} {k : Int} (h0 : 0 ≤ k) (h1 : k < (R.length : Int)) : (R.take (k + 1).toNat).map nset = (R.take k.toNat).map nset ++ [nset (getR .int R k)] := by
  have e : (k + 1).toNat = k.toNat + 1 := by omega
  rw [e, List.take_add_one, getR_get (t := .int) h0 h1, List.map_append]
  rfl
theorem im_rule_ok (n kind : Int) (l : List (Int × Int)) (hl : l.length ≤ 1048576) (hb : okK n l kind = true) : Spec2 Try.prog 58 [.agg (.pr .int (.sl (.pr .int .int))) fun _ => (n, l), .int fun _ => kind] [] [.cells [.int fun _ => kind, .ref 0], .bool fun _ => true] [some (.row 63 .u64 fun _ => nearS n l)] := by
  have hb2 : graphOk n l = true ∧ 1 ≤ kind ∧ kind ≤ 3 := by unfold okK at hb; simpa using hb
  obtain ⟨b1, b2, b3⟩ := hb2
  obtain ⟨⟨g0, g1⟩, g2, _⟩ := graph_edges b1
  have hlen := nearR_len l n
  have hrow : ∀ k : Int, 0 ≤ k → (getR .int (nearR l n) k).length ≤ 1048576 ∧ ∀ x ∈ getR .int (nearR l n) k, 0 ≤ x ∧ x < 8 := fun k hk => by
    rw [nearR_row hk g2]
    exact ⟨Nat.le_trans (rowV_len _ _) hl, row_in g1 g2⟩
  refine fnGE [7] [.cst 4 2 58, .tmp 5] Try.func58 rfl (by decide) rfl (by kernel_rfl) (.inr (.inl rfl)) (by kernel_rfl) (Nat.zero_le _) (by simp [Try.ntmps58]) ?_
  cbv
  repeat' (first | ((first | refine call_q (im_graph n l hl) (by cbv) ?_ | refine call_pure (im_graph n l hl) (by cbv) ?_); cbv; ((try simp only [IfP_iff, and_true, true_and, decide_eq_true_eq, decide_eq_false_iff_not]); (try simp only [natc, getI_gi, at2_0, at2_1]); (try dsimp only [Ty.den]); (try simp only [natc] at *); (repeat' (first | apply And.intro | intro _)))))
  all_goals (try (simp only [IfP_iff, EqU_iff, Obl_iff, and_true, true_and, inI_iff, decide_eq_true_eq, decide_eq_false_iff_not]; (try simp only [natc, getI_gi, at2_0, at2_1]); (try dsimp only [Ty.den]); try simp only [natc] at *))
  all_goals (repeat' (first | ((first | refine call_q (im_nearLists l n g0 (by omega) hl g2) (by cbv) ?_ | refine call_pure (im_nearLists l n g0 (by omega) hl g2) (by cbv) ?_); cbv; ((try simp only [IfP_iff, and_true, true_and, decide_eq_true_eq, decide_eq_false_iff_not]); (try simp only [natc, getI_gi, at2_0, at2_1]); (try dsimp only [Ty.den]); (try simp only [natc] at *); (repeat' (first | apply And.intro | intro _))))))
  all_goals (try (simp only [IfP_iff, EqU_iff, Obl_iff, and_true, true_and, inI_iff, decide_eq_true_eq, decide_eq_false_iff_not]; (try simp only [natc, getI_gi, at2_0, at2_1]); (try dsimp only [Ty.den]); try simp only [natc] at *))
  iterate 3
    · exfalso
      first
        | omega
        | simp_all
  refine LoopL.nil 63 .u64 [.box 2 1] ?_
  refine loopE [7] (by kernel_rfl) (fun k : Int => 0 ≤ k ∧ k ≤ (nearR l n).length) (fun k => [(29, .int fun _ => k)]) (fun k => [(4, some (.row 63 .u64 fun _ => ((nearR l n).take k.toNat).map nset)), (2, some (.box 58 [.int fun _ => kind, .ref 4]))]) (fun k => ((nearR l n).length - k).toNat) (· + 1) 0 (by omega) ?_ ?_
  · cbv
    (simp only [IfP_iff, EqU_iff, Obl_iff, and_true, true_and, inI_iff, decide_eq_true_eq, decide_eq_false_iff_not]; (try simp only [natc, getI_gi, at2_0, at2_1]); (try dsimp only [Ty.den]); try simp only [natc] at *)
    simp
  · intro k hk
    have i1 := map_take_next (R := nearR l n) (k := k) hk.1
    have i2 := hrow k hk.1
    have i3 : (((nearR l n).take k.toNat).map nset).length ≤ 8 := by rw [List.length_map, List.length_take]; omega
    have i4 : ¬ k < ((nearR l n).length : Int) → (nearR l n).take k.toNat = nearR l n := fun h => List.take_of_length_le (by omega)
    clear hrow
    cbv
    ((try simp only [IfP_iff, and_true, true_and, decide_eq_true_eq, decide_eq_false_iff_not]); (try simp only [natc, getI_gi, at2_0, at2_1]); (try dsimp only [Ty.den]); (try simp only [natc] at *); (repeat' (first | apply And.intro | intro _)))
    · (simp only [IfP_iff, EqU_iff, Obl_iff, and_true, true_and, inI_iff, decide_eq_true_eq, decide_eq_false_iff_not]; (try simp only [natc, getI_gi, at2_0, at2_1]); (try dsimp only [Ty.den]); try simp only [natc] at *)
      omega
    · refine DrawL.layersR [(3, .u64 fun _ => nset (getR .int (nearR l n) k))] [2] (fun _ _ => none) [([false, false, true, false, false, false, false, false], [0, 3]), ([true, false, true, false, false, false, false, false], [1, 3]), ([false, false, true, true, false, false, false, false], [0, 4]), ([true, true, true, false, false, false, false, false], [3]), ([true, false, true, true, false, false, false, false], [1, 4]), ([false, false, true, true, true, false, false, false], [0]), ([true, true, true, true, false, false, false, false], [4]), ([true, false, true, true, true, false, false, false], [1]), ([true, true, true, true, true, false, false, false], [5]), ([true, true, true, true, true, true, false, false], [6]), ([true, true, true, true, true, true, true, false], [7]), ([true, true, true, true, true, true, true, true], [])] (by kernel_rfl) ?_ ?_
      · cbv
        all_goals (try (simp only [IfP_iff, EqU_iff, Obl_iff, and_true, true_and, inI_iff, decide_eq_true_eq, decide_eq_false_iff_not]; (try simp only [natc, getI_gi, at2_0, at2_1]); (try dsimp only [Ty.den]); try simp only [natc] at *))
      · cbv
        (repeat' (first | apply And.intro | apply EqU.mk))
        all_goals (try trivial)
        all_goals (try (((first | refine call_q (im_setOf (getR .int (nearR l n) k) i2.1 i2.2) (by cbv) ?_ | refine call_pure (im_setOf (getR .int (nearR l n) k) i2.1 i2.2) (by cbv) ?_); cbv; ((try simp only [IfP_iff, and_true, true_and, decide_eq_true_eq, decide_eq_false_iff_not]); (try simp only [natc, getI_gi, at2_0, at2_1]); (try dsimp only [Ty.den]); (try simp only [natc] at *); (repeat' (first | apply And.intro | intro _))))))
        all_goals (try (first | trivial | rfl))
        all_goals (try (simp only [IfP_iff, EqU_iff, Obl_iff, and_true, true_and, inI_iff, decide_eq_true_eq, decide_eq_false_iff_not]; (try simp only [natc, getI_gi, at2_0, at2_1]); (try dsimp only [Ty.den]); try simp only [natc] at *))
        · rw [List.length_cons, List.length_nil]
          omega
        · omega
        · omega
        · exact (i1 (by assumption)).symm
    · refine EndG.plain [4] ?_
      cbv
      (simp only [IfP_iff, EqU_iff, Obl_iff, and_true, true_and, inI_iff, decide_eq_true_eq, decide_eq_false_iff_not]; (try simp only [natc, getI_gi, at2_0, at2_1]); (try dsimp only [Ty.den]); try simp only [natc] at *)
      rw [i4 (by assumption)]
      rfl
end Go.Proofs.Ythogfineaeklpaa.M

/- One variable of a formula, in the program. -/
import Derived.Test.YtjfjkfdalmafeaaFoQ
import Derived.Test.YtjfjkfdalmafeaaIgQ
namespace Go.Proofs.Ytjfjkfdalmafeaa.M
open Go.RowKit Abs
set_option linter.unusedSimpArgs false
set_option linter.unusedVariables false
set_option maxRecDepth 100000
set_option maxHeartbeats 4000000
theorem EndG.nilR {k : Nat} (e0 e2 : TypeId) (t : Ty) (ps : List At) (ρ : List Nat) {rs : List RK} {res : List AV} {post : Hp} {e : AX} {S : AS} (h : endGP k ρ rs res post e (S.nilR e0 e2 t ps)) : EndG k rs res post e S := by
  obtain ⟨h0, h1, h2, h3, h4⟩ := h.get
  exact ⟨fun x hx => hx ▸ h0, fun w0 B hd a w val hR => by
    obtain ⟨val', hR'⟩ := hR.nilR e0 e2 t ps
    exact ⟨_, val', hR', ρ, h1, h2, h3, h4⟩⟩
def litF (v b : Int) : Int := if b = 1 then v + 1 else -1 - v
theorem im_lit (v b : Int) (h0 : 0 ≤ v) (h1 : v < 1000) : Spec2 Try.prog 92 [.int fun _ => v, .int fun _ => b] [] [.int fun _ => litF v b] [] := by
  have h9 : litF v b = _ := rfl
  conv at h9 => rhs; unfold litF
  refine fnS [] [4] Try.func92 rfl (by decide) rfl (by decide) (by kernel_rfl) rfl (by simp [Try.ntmps92]) ?_
  cbv
  ((try simp only [IfP_iff, and_true, true_and, decide_eq_true_eq, decide_eq_false_iff_not]); (try simp only [natc, at2_0, at2_1]); (try dsimp only [Ty.den]); (try simp only [natc] at *); (repeat' (first | apply And.intro | intro _)))
  all_goals (try (simp only [IfP_iff, EqU_iff, Obl_iff, and_true, true_and, inI_iff, decide_eq_true_eq, decide_eq_false_iff_not]; (try simp only [natc, at2_0, at2_1]); (try dsimp only [Ty.den]); try simp only [natc] at *))
  all_goals ((repeat' (first | apply And.intro | intro _)) <;> first | omega | (simp only [List.length_append, List.length_cons, List.length_nil]; omega) | grind)
def fixB (n : Int) (L : List (List Int)) (v b : Int) : Bool := formOk n L && (decide (0 ≤ v) && decide (v < n)) && (decide (0 ≤ b) && decide (b < 2)) && !decide ((L.length : Int) = 64)
theorem im_fix_bad (n v b : Int) (L : List (List Int)) (hL : L.length ≤ 1048576) (hm : ∀ r ∈ L, r.length ≤ 1048576) (hx : ∀ r ∈ L, ∀ x ∈ r, inI x) (hb : fixB n L v b = false) : Spec2 Try.prog 49 [.cells [.int fun _ => n, .sl (.sl .int) fun _ => L], .int fun _ => v, .int fun _ => b] [] [.cells [.int fun _ => 0, .ref 0], .bool fun _ => false] [some (.rows 31 3 .int fun _ => [])] := by
  refine fnGE [4] [.cst 6 2 27, .tmp 7] Try.func49 rfl (by decide) rfl (by kernel_rfl) (.inr (.inl rfl)) (by kernel_rfl) (Nat.zero_le _) (by simp [Try.ntmps49]) ?_
  cbv
  repeat' (first | ((first | refine call_q (Spec2.agg6 (t := .pr .int (.sl (.sl .int))) (x := fun _ => (n, L)) (im_isFormula n L hL hm hx)) (by cbv) ?_ | refine call_pure (Spec2.agg6 (t := .pr .int (.sl (.sl .int))) (x := fun _ => (n, L)) (im_isFormula n L hL hm hx)) (by cbv) ?_); cbv; ((try simp only [IfP_iff, and_true, true_and, decide_eq_true_eq, decide_eq_false_iff_not]); (try simp only [natc, at2_0, at2_1]); (try dsimp only [Ty.den]); (try simp only [natc] at *); (repeat' (first | apply And.intro | intro _)))) | ((first | refine call_q (im_isIndex _ _) (by cbv) ?_ | refine call_pure (im_isIndex _ _) (by cbv) ?_); cbv; ((try simp only [IfP_iff, and_true, true_and, decide_eq_true_eq, decide_eq_false_iff_not]); (try simp only [natc, at2_0, at2_1]); (try dsimp only [Ty.den]); (try simp only [natc] at *); (repeat' (first | apply And.intro | intro _)))))
  all_goals (try (simp only [IfP_iff, EqU_iff, Obl_iff, and_true, true_and, inI_iff, decide_eq_true_eq, decide_eq_false_iff_not]; (try simp only [natc, at2_0, at2_1]); (try dsimp only [Ty.den]); try simp only [natc] at *))
  iterate 4
    · refine EndG.nilR 31 3 .int [.box 1 1] [2] ?_
      cbv
      (simp only [IfP_iff, EqU_iff, Obl_iff, and_true, true_and, inI_iff, decide_eq_true_eq, decide_eq_false_iff_not]; (try simp only [natc, at2_0, at2_1]); (try dsimp only [Ty.den]); try simp only [natc] at *)
  exfalso
  unfold fixB at hb
  clear hm hx
  grind
theorem im_fix_ok (n v b : Int) (L : List (List Int)) (hL : L.length ≤ 1048576) (hm : ∀ r ∈ L, r.length ≤ 1048576) (hx : ∀ r ∈ L, ∀ x ∈ r, inI x) (hb : fixB n L v b = true) : Spec2 Try.prog 49 [.cells [.int fun _ => n, .sl (.sl .int) fun _ => L], .int fun _ => v, .int fun _ => b] [] [.cells [.int fun _ => n, .ref 0], .bool fun _ => true] [some (.rows 31 3 .int fun _ => L ++ [[litF v b]])] := by
  have hb2 := hb
  unfold fixB formOk at hb2
  simp only [Bool.and_eq_true, decide_eq_true_eq] at hb2
  refine fnGE [4] [.cst 6 2 27, .tmp 7] Try.func49 rfl (by decide) rfl (by kernel_rfl) (.inr (.inl rfl)) (by kernel_rfl) (Nat.zero_le _) (by simp [Try.ntmps49]) ?_
  cbv
  repeat' (first | ((first | refine call_q (Spec2.agg6 (t := .pr .int (.sl (.sl .int))) (x := fun _ => (n, L)) (im_isFormula n L hL hm hx)) (by cbv) ?_ | refine call_pure (Spec2.agg6 (t := .pr .int (.sl (.sl .int))) (x := fun _ => (n, L)) (im_isFormula n L hL hm hx)) (by cbv) ?_); cbv; ((try simp only [IfP_iff, and_true, true_and, decide_eq_true_eq, decide_eq_false_iff_not]); (try simp only [natc, at2_0, at2_1]); (try dsimp only [Ty.den]); (try simp only [natc] at *); (repeat' (first | apply And.intro | intro _)))) | ((first | refine call_q (im_isIndex _ _) (by cbv) ?_ | refine call_pure (im_isIndex _ _) (by cbv) ?_); cbv; ((try simp only [IfP_iff, and_true, true_and, decide_eq_true_eq, decide_eq_false_iff_not]); (try simp only [natc, at2_0, at2_1]); (try dsimp only [Ty.den]); (try simp only [natc] at *); (repeat' (first | apply And.intro | intro _)))))
  all_goals (try (simp only [IfP_iff, EqU_iff, Obl_iff, and_true, true_and, inI_iff, decide_eq_true_eq, decide_eq_false_iff_not]; (try simp only [natc, at2_0, at2_1]); (try dsimp only [Ty.den]); try simp only [natc] at *))
  all_goals (repeat' (first | ((first | refine call_q (Spec2.agg6 (t := .pr .int (.sl (.sl .int))) (x := fun _ => (n, L)) (im_copyOf n L hL hm)) (by cbv) ?_ | refine call_pure (Spec2.agg6 (t := .pr .int (.sl (.sl .int))) (x := fun _ => (n, L)) (im_copyOf n L hL hm)) (by cbv) ?_); cbv; ((try simp only [IfP_iff, and_true, true_and, decide_eq_true_eq, decide_eq_false_iff_not]); (try simp only [natc, at2_0, at2_1]); (try dsimp only [Ty.den]); (try simp only [natc] at *); (repeat' (first | apply And.intro | intro _)))) | ((first | refine call_q (im_copyOf n L hL hm) (by cbv) ?_ | refine call_pure (im_copyOf n L hL hm) (by cbv) ?_); cbv; ((try simp only [IfP_iff, and_true, true_and, decide_eq_true_eq, decide_eq_false_iff_not]); (try simp only [natc, at2_0, at2_1]); (try dsimp only [Ty.den]); (try simp only [natc] at *); (repeat' (first | apply And.intro | intro _))))))
  all_goals (try (simp only [IfP_iff, EqU_iff, Obl_iff, and_true, true_and, inI_iff, decide_eq_true_eq, decide_eq_false_iff_not]; (try simp only [natc, at2_0, at2_1]); (try dsimp only [Ty.den]); try simp only [natc] at *))
  iterate 4
    · exfalso
      unfold fixB at hb
      clear hm hx hb2
      grind
  refine DrawL.layersS [(4, fun S => S.put (some 37) (.int fun _ => litF v b))] [2, 3] (fun _ _ => none) [([false, false, true, true, false, false, false, false, false, false], [0, 4]), ([true, false, true, true, false, false, false, false, false, false], [1, 4]), ([false, false, true, true, true, false, false, false, false, false], [0, 5]), ([true, true, true, true, false, false, false, false, false, false], [4]), ([true, false, true, true, true, false, false, false, false, false], [1, 5]), ([false, false, true, true, true, true, false, false, false, false], [0, 6]), ([true, true, true, true, true, false, false, false, false, false], [5]), ([true, false, true, true, true, true, false, false, false, false], [1, 6]), ([false, false, true, true, true, true, true, false, false, false], [0]), ([true, true, true, true, true, true, false, false, false, false], [6]), ([true, false, true, true, true, true, true, false, false, false], [1]), ([true, true, true, true, true, true, true, false, false, false], [7]), ([true, true, true, true, true, true, true, true, false, false], [8]), ([true, true, true, true, true, true, true, true, true, false], [9]), ([true, true, true, true, true, true, true, true, true, true], [])] (by kernel_rfl) (by rfl) ?_
  cbv
  (repeat' (first | apply And.intro | apply EqU.mk))
  all_goals (try trivial)
  all_goals (try (((first | refine call_q (im_lit v b (by omega) (by omega)) (by cbv) ?_ | refine call_pure (im_lit v b (by omega) (by omega)) (by cbv) ?_); cbv; ((try simp only [IfP_iff, and_true, true_and, decide_eq_true_eq, decide_eq_false_iff_not]); (try simp only [natc, at2_0, at2_1]); (try dsimp only [Ty.den]); (try simp only [natc] at *); (repeat' (first | apply And.intro | intro _))))))
  all_goals (try (first | trivial | rfl))
  all_goals (try (simp only [IfP_iff, EqU_iff, Obl_iff, and_true, true_and, inI_iff, decide_eq_true_eq, decide_eq_false_iff_not]; (try simp only [natc, at2_0, at2_1]); (try dsimp only [Ty.den]); try simp only [natc] at *))
  · rw [List.length_cons, List.length_nil]
    omega
  · refine EndG.plain [2] ?_
    cbv
    (simp only [IfP_iff, EqU_iff, Obl_iff, and_true, true_and, inI_iff, decide_eq_true_eq, decide_eq_false_iff_not]; (try simp only [natc, at2_0, at2_1]); (try dsimp only [Ty.den]); try simp only [natc] at *)
end Go.Proofs.Ytjfjkfdalmafeaa.M

/- Valid triangulations: several at once in the program, one in the specification. -/
import Derived.Test.YtbpheblbbdiapaaDhQ
import Derived.Test.YtbpheblbbdiapaaIfQ
import Derived.Test.YtbpheblbbdiapaaQg
namespace Go.Proofs.Ytbpheblbbdiapaa.M
open Go.RowKit Abs
set_option linter.unusedSimpArgs false
set_option linter.unusedVariables false
set_option maxRecDepth 100000
set_option maxHeartbeats 4000000
theorem im_areTri1 (n : Int) (l : List Int) (hl : l.length ≤ 1048576) : Spec2 Try.prog 84 [.sl .int fun _ => l, .ibox [.int fun _ => n] 0] [] [.bool fun _ => !triV n l] [] := by
  refine fnS [] [3] Try.func84 rfl (by decide) rfl (by decide) (by kernel_rfl) rfl (by simp [Try.ntmps84]) ?_
  cbv
  repeat' (first | ((first | refine call_q (im_isTri n l hl) (by cbv) ?_ | refine call_pure (im_isTri n l hl) (by cbv) ?_); cbv; ((try simp only [IfP_iff, and_true, true_and, decide_eq_true_eq, decide_eq_false_iff_not]); (try simp only [natc, getI_gi, at2_0, at2_1]); (try dsimp only [Ty.den]); (try simp only [natc] at *); (repeat' (first | apply And.intro | intro _)))))
  all_goals (try (simp only [IfP_iff, EqU_iff, Obl_iff, and_true, true_and, inI_iff, decide_eq_true_eq, decide_eq_false_iff_not]; (try simp only [natc, getI_gi, at2_0, at2_1]); (try dsimp only [Ty.den]); try simp only [natc] at *))
theorem not_any {L : List (List Int)} {q : List Int → Bool} : (!L.any fun x => !q x) = L.all q := by
  rw [Bool.eq_iff_iff]
  simp
theorem im_areTri (n : Int) (L : List (List Int)) (hL : L.length ≤ 1048576) (hl : ∀ l ∈ L, l.length ≤ 1048576) : Spec2 Try.prog 53 [.int fun _ => n, .sl (.sl .int) fun _ => L] [] [.bool fun _ => L.all (triV n)] [] := by
  rw [← not_any]
  refine fnS [] [4] Try.func53 rfl (by decide) rfl (by decide) (by kernel_rfl) rfl (by simp [Try.ntmps53]) ?_
  cbv
  repeat' (first | ((first | refine call_q (go_containsFR 84 (fun _ => ofCaps [.ibox [.int fun _ => n] 0]) (fun x => !triV n x) L hL fun x hx => ⟨_, rfl, fun _ => rfl, im_areTri1 n x (hl x hx)⟩) (by cbv) ?_ | refine call_pure (go_containsFR 84 (fun _ => ofCaps [.ibox [.int fun _ => n] 0]) (fun x => !triV n x) L hL fun x hx => ⟨_, rfl, fun _ => rfl, im_areTri1 n x (hl x hx)⟩) (by cbv) ?_); cbv; ((try simp only [IfP_iff, and_true, true_and, decide_eq_true_eq, decide_eq_false_iff_not]); (try simp only [natc, getI_gi, at2_0, at2_1]); (try dsimp only [Ty.den]); (try simp only [natc] at *); (repeat' (first | apply And.intro | intro _)))))
  all_goals (try (simp only [IfP_iff, EqU_iff, Obl_iff, and_true, true_and, inI_iff, decide_eq_true_eq, decide_eq_false_iff_not]; (try simp only [natc, getI_gi, at2_0, at2_1]); (try dsimp only [Ty.den]); try simp only [natc] at *))
def vv (n : Int) (a b : List Int) : Bool := triV n a && triV n b
theorem im_areTri2 (n : Int) (a b : List Int) (ha : a.length ≤ 1048576) (hb : b.length ≤ 1048576) : Spec2 Try.prog 53 [.int fun _ => n, .sl (.sl .int) fun _ => [a, b]] [] [.bool fun _ => vv n a b] [] := by
  have h := im_areTri n [a, b] (by rw [List.length_cons, List.length_cons, List.length_nil]; omega) (by simp [ha, hb])
  have e : vv n a b = [a, b].all (triV n) := by simp [vv]
  rw [e]
  exact h
theorem im_areTri1L (n : Int) (a : List Int) (ha : a.length ≤ 1048576) : Spec2 Try.prog 53 [.int fun _ => n, .sl (.sl .int) fun _ => [a]] [] [.bool fun _ => triV n a] [] := by
  have h := im_areTri n [a] (by rw [List.length_cons, List.length_nil]; omega) (by simp [ha])
  have e : triV n a = [a].all (triV n) := by simp
  rw [e]
  exact h
theorem sp_valid (n : Int) (l : List Int) (hl : l.length ≤ 1048576) : Spec2 Try.prog 51 [.int fun _ => n, .sl .int fun _ => l] [] [.bool fun _ => triV n l] [] := by
  by_cases hp : polyB n = true
  case neg =>
    rw [Bool.not_eq_true] at hp
    have h8 : triV n l = false := by unfold triV; rw [hp]; rfl
    rw [h8]
    refine fnS [] [4] Try.func51 rfl (by decide) rfl (by decide) (by kernel_rfl) rfl (by simp [Try.ntmps51]) ?_
    cbv
    repeat' (first | ((first | refine call_q (sp_corners n) (by cbv) ?_ | refine call_pure (sp_corners n) (by cbv) ?_); cbv; ((try simp only [IfP_iff, and_true, true_and, decide_eq_true_eq, decide_eq_false_iff_not]); (try simp only [natc, getI_gi, at2_0, at2_1]); (try dsimp only [Ty.den]); (try simp only [natc] at *); (repeat' (first | apply And.intro | intro _)))))
    all_goals (try (simp only [IfP_iff, EqU_iff, Obl_iff, and_true, true_and, inI_iff, decide_eq_true_eq, decide_eq_false_iff_not]; (try simp only [natc, getI_gi, at2_0, at2_1]); (try dsimp only [Ty.den]); try simp only [natc] at *))
    ((try simp only [IfP_iff, and_true, true_and, decide_eq_true_eq, decide_eq_false_iff_not]); (try simp only [natc, getI_gi, at2_0, at2_1]); (try dsimp only [Ty.den]); (try simp only [natc] at *); (repeat' (first | apply And.intro | intro _)))
    all_goals (try (exact absurd (by assumption : polyB n = true) (by rw [hp]; decide)))
    all_goals (try (simp only [IfP_iff, EqU_iff, Obl_iff, and_true, true_and, inI_iff, decide_eq_true_eq, decide_eq_false_iff_not]; (try simp only [natc, getI_gi, at2_0, at2_1]); (try dsimp only [Ty.den]); try simp only [natc] at *))
  have h9 := hp
  unfold polyB at h9
  simp only [Bool.and_eq_true, decide_eq_true_eq] at h9
  have h8 : triV n l = triB n l := by unfold triV; rw [hp]; rfl
  rw [h8]
  refine fnS [] [4] Try.func51 rfl (by decide) rfl (by decide) (by kernel_rfl) rfl (by simp [Try.ntmps51]) ?_
  cbv
  repeat' (first | ((first | refine call_q (sp_corners n) (by cbv) ?_ | refine call_pure (sp_corners n) (by cbv) ?_); cbv; ((try simp only [IfP_iff, and_true, true_and, decide_eq_true_eq, decide_eq_false_iff_not]); (try simp only [natc, getI_gi, at2_0, at2_1]); (try dsimp only [Ty.den]); (try simp only [natc] at *); (repeat' (first | apply And.intro | intro _)))))
  all_goals (try (simp only [IfP_iff, EqU_iff, Obl_iff, and_true, true_and, inI_iff, decide_eq_true_eq, decide_eq_false_iff_not]; (try simp only [natc, getI_gi, at2_0, at2_1]); (try dsimp only [Ty.den]); try simp only [natc] at *))
  ((try simp only [IfP_iff, and_true, true_and, decide_eq_true_eq, decide_eq_false_iff_not]); (try simp only [natc, getI_gi, at2_0, at2_1]); (try dsimp only [Ty.den]); (try simp only [natc] at *); (repeat' (first | apply And.intro | intro _)))
  all_goals (try (exact absurd (by assumption : polyB n = false) (by rw [hp]; decide)))
  all_goals (repeat' (first | ((first | refine call_q (sp_triangulates n l h9.1 h9.2 hl) (by cbv) ?_ | refine call_pure (sp_triangulates n l h9.1 h9.2 hl) (by cbv) ?_); cbv; ((try simp only [IfP_iff, and_true, true_and, decide_eq_true_eq, decide_eq_false_iff_not]); (try simp only [natc, getI_gi, at2_0, at2_1]); (try dsimp only [Ty.den]); (try simp only [natc] at *); (repeat' (first | apply And.intro | intro _))))))
  all_goals (try ((try simp only [IfP_iff, and_true, true_and, decide_eq_true_eq, decide_eq_false_iff_not]); (try simp only [natc, getI_gi, at2_0, at2_1]); (try dsimp only [Ty.den]); (try simp only [natc] at *); (repeat' (first | apply And.intro | intro _))))
  all_goals (try (simp only [IfP_iff, EqU_iff, Obl_iff, and_true, true_and, inI_iff, decide_eq_true_eq, decide_eq_false_iff_not]; (try simp only [natc, getI_gi, at2_0, at2_1]); (try dsimp only [Ty.den]); try simp only [natc] at *))
theorem triV_poly {n : Int} {l : List Int} (h : triV n l = true) : 3 ≤ n ∧ n ≤ 8 := by
  unfold triV polyB at h
  simp only [Bool.and_eq_true, decide_eq_true_eq] at h
  exact h.1
theorem triV_len {n : Int} {l : List Int} (h : triV n l = true) : (l.length : Int) = n - 3 := by
  unfold triV triB at h
  simp only [Bool.and_eq_true, decide_eq_true_eq] at h
  exact h.2.1
theorem triV_mem {n : Int} {l : List Int} (h : triV n l = true) {x : Int} (hx : x ∈ l) : x ∈ diagL n := by
  unfold triV triB fitB at h
  simp only [Bool.and_eq_true, decide_eq_true_eq] at h
  obtain ⟨k, k0, k1, e⟩ := mem_at hx
  have h1 := allI_get h.2.2.1 k0 k1
  unfold fitOk at h1
  have h2 := (fit_mem.1 (hasB_iff.1 h1)).1
  have e1 : gi l k = x := e
  rwa [e1] at h2
theorem triV_in {n : Int} {l : List Int} (h : triV n l = true) {x : Int} (hx : x ∈ l) : 0 ≤ x ∧ x < 100 := diag_in (triV_poly h).1 (triV_poly h).2 x (triV_mem h hx)
theorem triV_pw {n : Int} {l : List Int} (h : triV n l = true) : l.Pairwise (· < ·) := by
  unfold triV triB fitB at h
  simp only [Bool.and_eq_true, decide_eq_true_eq] at h
  have hinc := h.2.2.2
  rw [List.pairwise_iff_getElem]
  intro i j hi hj hij
  have h4 := inc_lt hinc (a := i) (by omega) (d := j - i - 1) (by omega)
  have g : ∀ (k : Nat) (hk : k < l.length), gi l k = l[k] := fun k hk => by
    unfold gi
    rw [show ((k : Int)).toNat = k by omega, List.getD_eq_getElem?_getD, List.getElem?_eq_getElem hk]; rfl
  rw [show (i : Int) + ((j - i - 1 : Nat) : Int) + 1 = (j : Int) by omega, g i hi, g j hj] at h4
  exact h4
end Go.Proofs.Ytbpheblbbdiapaa.M

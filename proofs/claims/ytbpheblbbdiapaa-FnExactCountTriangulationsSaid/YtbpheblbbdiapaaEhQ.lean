/- CountTriangulations: both sides. -/
import Derived.Test.YtbpheblbbdiapaaDhQ
import Derived.Test.YtbpheblbbdiapaaQg
namespace Go.Proofs.Ytbpheblbbdiapaa.M
open Go.RowKit Abs
set_option linter.unusedSimpArgs false
set_option linter.unusedVariables false
set_option maxRecDepth 100000
set_option maxHeartbeats 4000000
def catN : Nat → Int
  | 2 => 1 | 3 => 1 | 4 => 2 | 5 => 5 | 6 => 14 | 7 => 42 | 8 => 132
  | _ => 0
def catI (c : Int) : Int := catN c.toNat
def sumC (c : Nat) : Nat → Int
  | 0 => 0
  | k + 1 => sumC c k + catN (k + 2) * catN (c - (k + 1))
theorem sumC_fin : ∀ c : Fin 9, ∀ k : Fin 9, 0 ≤ sumC c.val k.val ∧ sumC c.val k.val ≤ 100000 := by decide
theorem catC_fin : ∀ a : Fin 9, ∀ b : Fin 9, 0 ≤ catN a.val * catN b.val ∧ catN a.val * catN b.val ≤ 100000 := by decide
theorem cat_in {c k : Int} (c0 : 0 ≤ c) (c1 : c ≤ 8) (k0 : 0 ≤ k) (k1 : k ≤ 8) : 0 ≤ catI c * catI k ∧ catI c * catI k ≤ 100000 := catC_fin ⟨c.toNat, by omega⟩ ⟨k.toNat, by omega⟩
theorem sum_in {c k : Int} (c0 : 0 ≤ c) (c1 : c ≤ 8) (k0 : 1 ≤ k) (k1 : k ≤ 9) : 0 ≤ sumC c.toNat (k - 1).toNat ∧ sumC c.toNat (k - 1).toNat ≤ 100000 := sumC_fin ⟨c.toNat, by omega⟩ ⟨(k - 1).toNat, by omega⟩
theorem sum_next {c k : Int} (c1 : k ≤ c) (k0 : 1 ≤ k) : sumC c.toNat (k + 1 - 1).toNat = sumC c.toNat (k - 1).toNat + catI (k + 1) * catI (c - k) := by
  obtain ⟨j, hj⟩ : ∃ j : Nat, k = j + 1 := ⟨(k - 1).toNat, by omega⟩
  subst hj
  rw [show ((j : Int) + 1 + 1 - 1).toNat = j + 1 by omega, show ((j : Int) + 1 - 1).toNat = j by omega]
  conv => lhs; unfold sumC
  unfold catI
  rw [show ((j : Int) + 1 + 1).toNat = j + 2 by omega, show (c - ((j : Int) + 1)).toNat = c.toNat - (j + 1) by omega]
theorem sum_all {c : Int} (c0 : 3 ≤ c) (c1 : c ≤ 8) : sumC c.toNat (c - 1 - 1).toNat = catI c := by
  have h : c = 3 ∨ c = 4 ∨ c = 5 ∨ c = 6 ∨ c = 7 ∨ c = 8 := by omega
  rcases h with rfl | rfl | rfl | rfl | rfl | rfl <;> decide
theorem im_triFor : ∀ (m : Nat) (c : Int), 2 ≤ c → c ≤ 8 → c.toNat ≤ m → Spec2 Try.prog 74 [.int fun _ => c] [] [.int fun _ => catI c] []
  | 0, c, c0, _, h => absurd h (by omega)
  | m + 1, c, c0, c1, h => by
    have ih := im_triFor m
    by_cases hc : c ≤ 3
    case pos =>
      have e : catI c = 1 := by
        have : c = 2 ∨ c = 3 := by omega
        rcases this with rfl | rfl <;> rfl
      rw [e]
      refine fnS [] [2] Try.func74 rfl (by decide) rfl (by decide) (by kernel_rfl) rfl (by simp [Try.ntmps74]) ?_
      cbv
      ((try simp only [IfP_iff, and_true, true_and, decide_eq_true_eq, decide_eq_false_iff_not]); (try simp only [natc, getI_gi, at2_0, at2_1]); (try dsimp only [Ty.den]); (try simp only [natc] at *); (repeat' (first | apply And.intro | intro _)))
      all_goals (try (exact absurd hc (by assumption)))
      all_goals (try (simp only [IfP_iff, EqU_iff, Obl_iff, and_true, true_and, inI_iff, decide_eq_true_eq, decide_eq_false_iff_not]; (try simp only [natc, getI_gi, at2_0, at2_1]); (try dsimp only [Ty.den]); try simp only [natc] at *))
    refine fnS [] [2] Try.func74 rfl (by decide) rfl (by decide) (by kernel_rfl) rfl (by simp [Try.ntmps74]) ?_
    cbv
    ((try simp only [IfP_iff, and_true, true_and, decide_eq_true_eq, decide_eq_false_iff_not]); (try simp only [natc, getI_gi, at2_0, at2_1]); (try dsimp only [Ty.den]); (try simp only [natc] at *); (repeat' (first | apply And.intro | intro _)))
    all_goals (try (exact absurd (by assumption) hc))
    refine loopP (by kernel_rfl) (fun k : Int => 1 ≤ k ∧ k ≤ c - 1) (fun k => [(4, .int fun _ => k), (3, .int fun _ => sumC c.toNat (k - 1).toNat)]) (fun k => []) (fun k => (c - k).toNat) (· + 1) 1 (by omega) ?_ ?_
    · cbv
      (simp only [IfP_iff, EqU_iff, Obl_iff, and_true, true_and, inI_iff, decide_eq_true_eq, decide_eq_false_iff_not]; (try simp only [natc, getI_gi, at2_0, at2_1]); (try dsimp only [Ty.den]); try simp only [natc] at *)
      rfl
    · intro k hk
      have b1 := sum_in (c := c) (k := k) (by omega) c1 hk.1 (by omega)
      have b2 := sum_next (c := c) (k := k) (by omega) hk.1
      have b3 := cat_in (c := k + 1) (k := c - k) (by omega) (by omega) (by omega) (by omega)
      have b4 : ¬ k < c - 1 → sumC c.toNat (k - 1).toNat = catI c := fun h => by rw [show k = c - 1 by omega]; exact sum_all (by omega) c1
      have i1 : k < c - 1 → Spec2 Try.prog 74 [.int fun _ => k + 1] [] [.int fun _ => catI (k + 1)] [] := fun h => ih (k + 1) (by omega) (by omega) (by omega)
      have i2 : k < c - 1 → Spec2 Try.prog 74 [.int fun _ => c - k] [] [.int fun _ => catI (c - k)] [] := fun h => ih (c - k) (by omega) (by omega) (by omega)
      clear ih
      cbv
      ((try simp only [IfP_iff, and_true, true_and, decide_eq_true_eq, decide_eq_false_iff_not]); (try simp only [natc, getI_gi, at2_0, at2_1]); (try dsimp only [Ty.den]); (try simp only [natc] at *); (repeat' (first | apply And.intro | intro _)))
      all_goals (try ((simp only [IfP_iff, EqU_iff, Obl_iff, and_true, true_and, inI_iff, decide_eq_true_eq, decide_eq_false_iff_not]; (try simp only [natc, getI_gi, at2_0, at2_1]); (try dsimp only [Ty.den]); try simp only [natc] at *); done))
      all_goals (try ((simp only [IfP_iff, EqU_iff, Obl_iff, and_true, true_and, inI_iff, decide_eq_true_eq, decide_eq_false_iff_not]; (try simp only [natc, getI_gi, at2_0, at2_1]); (try dsimp only [Ty.den]); try simp only [natc] at *); omega))
      all_goals (repeat' (first | ((first | refine call_q (i1 (by assumption)) (by cbv) ?_ | refine call_pure (i1 (by assumption)) (by cbv) ?_); cbv; ((try simp only [IfP_iff, and_true, true_and, decide_eq_true_eq, decide_eq_false_iff_not]); (try simp only [natc, getI_gi, at2_0, at2_1]); (try dsimp only [Ty.den]); (try simp only [natc] at *); (repeat' (first | apply And.intro | intro _)))) | ((first | refine call_q (i2 (by assumption)) (by cbv) ?_ | refine call_pure (i2 (by assumption)) (by cbv) ?_); cbv; ((try simp only [IfP_iff, and_true, true_and, decide_eq_true_eq, decide_eq_false_iff_not]); (try simp only [natc, getI_gi, at2_0, at2_1]); (try dsimp only [Ty.den]); (try simp only [natc] at *); (repeat' (first | apply And.intro | intro _))))))
      all_goals (try (simp only [IfP_iff, EqU_iff, Obl_iff, and_true, true_and, inI_iff, decide_eq_true_eq, decide_eq_false_iff_not]; (try simp only [natc, getI_gi, at2_0, at2_1]); (try dsimp only [Ty.den]); try simp only [natc] at *))
      all_goals ((repeat' (first | apply And.intro | intro _)) <;> first | omega | (exact b4 (by assumption)) | trace_state)
def cntR (n : Int) : Int := if polyB n = true then catI n else 0
theorem im_countTri (n : Int) : Spec2 Try.prog 34 [.int fun _ => n] [] [.int fun _ => cntR n, .bool fun _ => polyB n] [] := by
  by_cases hp : polyB n = true
  case neg =>
    have h8 : cntR n = 0 := by unfold cntR; rw [if_neg hp]
    rw [Bool.not_eq_true] at hp
    rw [hp, h8]
    refine fnS [] [2, 3] Try.func34 rfl (by decide) rfl (by decide) (by kernel_rfl) rfl (by simp [Try.ntmps34]) ?_
    cbv
    repeat' (first | ((first | refine call_q (im_polygon n) (by cbv) ?_ | refine call_pure (im_polygon n) (by cbv) ?_); cbv; ((try simp only [IfP_iff, and_true, true_and, decide_eq_true_eq, decide_eq_false_iff_not]); (try simp only [natc, getI_gi, at2_0, at2_1]); (try dsimp only [Ty.den]); (try simp only [natc] at *); (repeat' (first | apply And.intro | intro _)))))
    all_goals (try (simp only [IfP_iff, EqU_iff, Obl_iff, and_true, true_and, inI_iff, decide_eq_true_eq, decide_eq_false_iff_not]; (try simp only [natc, getI_gi, at2_0, at2_1]); (try dsimp only [Ty.den]); try simp only [natc] at *))
    ((try simp only [IfP_iff, and_true, true_and, decide_eq_true_eq, decide_eq_false_iff_not]); (try simp only [natc, getI_gi, at2_0, at2_1]); (try dsimp only [Ty.den]); (try simp only [natc] at *); (repeat' (first | apply And.intro | intro _)))
    all_goals (try (exact absurd (by assumption : (!polyB n) = false) (by rw [hp]; decide)))
    all_goals (try (simp only [IfP_iff, EqU_iff, Obl_iff, and_true, true_and, inI_iff, decide_eq_true_eq, decide_eq_false_iff_not]; (try simp only [natc, getI_gi, at2_0, at2_1]); (try dsimp only [Ty.den]); try simp only [natc] at *))
  have h8 : cntR n = catI n := by unfold cntR; rw [if_pos hp]
  have h9 := hp
  unfold polyB at h9
  simp only [Bool.and_eq_true, decide_eq_true_eq] at h9
  rw [hp, h8]
  refine fnS [] [2, 3] Try.func34 rfl (by decide) rfl (by decide) (by kernel_rfl) rfl (by simp [Try.ntmps34]) ?_
  cbv
  repeat' (first | ((first | refine call_q (im_polygon n) (by cbv) ?_ | refine call_pure (im_polygon n) (by cbv) ?_); cbv; ((try simp only [IfP_iff, and_true, true_and, decide_eq_true_eq, decide_eq_false_iff_not]); (try simp only [natc, getI_gi, at2_0, at2_1]); (try dsimp only [Ty.den]); (try simp only [natc] at *); (repeat' (first | apply And.intro | intro _)))))
  all_goals (try (simp only [IfP_iff, EqU_iff, Obl_iff, and_true, true_and, inI_iff, decide_eq_true_eq, decide_eq_false_iff_not]; (try simp only [natc, getI_gi, at2_0, at2_1]); (try dsimp only [Ty.den]); try simp only [natc] at *))
  ((try simp only [IfP_iff, and_true, true_and, decide_eq_true_eq, decide_eq_false_iff_not]); (try simp only [natc, getI_gi, at2_0, at2_1]); (try dsimp only [Ty.den]); (try simp only [natc] at *); (repeat' (first | apply And.intro | intro _)))
  all_goals (try (exact absurd (by assumption : (!polyB n) = true) (by rw [hp]; decide)))
  all_goals (repeat' (first | ((first | refine call_q (im_triFor 8 n (by omega) h9.2 (by omega)) (by cbv) ?_ | refine call_pure (im_triFor 8 n (by omega) h9.2 (by omega)) (by cbv) ?_); cbv; ((try simp only [IfP_iff, and_true, true_and, decide_eq_true_eq, decide_eq_false_iff_not]); (try simp only [natc, getI_gi, at2_0, at2_1]); (try dsimp only [Ty.den]); (try simp only [natc] at *); (repeat' (first | apply And.intro | intro _))))))
  all_goals (try (simp only [IfP_iff, EqU_iff, Obl_iff, and_true, true_and, inI_iff, decide_eq_true_eq, decide_eq_false_iff_not]; (try simp only [natc, getI_gi, at2_0, at2_1]); (try dsimp only [Ty.den]); try simp only [natc] at *))
def catL (m : Nat) : List Int := (List.range m).map catN
theorem catL_get {m : Nat} {i : Int} (h0 : 0 ≤ i) (h1 : i < m) : gi (catL m) i = catI i := by
  unfold gi catL catI
  rw [List.getD_eq_getElem?_getD, List.getElem?_map, List.getElem?_range (by omega)]; rfl
theorem catL_len (m : Nat) : (catL m).length = m := by simp [catL]
theorem catL_next {m : Int} (h : 0 ≤ m) : catL (m + 1).toNat = catL m.toNat ++ [catI m] := by
  rw [show (m + 1).toNat = m.toNat + 1 by omega]
  unfold catL catI
  rw [List.range_succ, List.map_append]; rfl
theorem sp_countTri (n : Int) : Spec2 Try.prog 33 [.int fun _ => n] [] [.int fun _ => cntR n, .bool fun _ => polyB n] [] := by
  by_cases hp : polyB n = true
  case neg =>
    have h8 : cntR n = 0 := by unfold cntR; rw [if_neg hp]
    rw [Bool.not_eq_true] at hp
    rw [hp, h8]
    refine fnS [] [2, 3] Try.func33 rfl (by decide) rfl (by decide) (by kernel_rfl) rfl (by simp [Try.ntmps33]) ?_
    cbv
    repeat' (first | ((first | refine call_q (sp_corners n) (by cbv) ?_ | refine call_pure (sp_corners n) (by cbv) ?_); cbv; ((try simp only [IfP_iff, and_true, true_and, decide_eq_true_eq, decide_eq_false_iff_not]); (try simp only [natc, getI_gi, at2_0, at2_1]); (try dsimp only [Ty.den]); (try simp only [natc] at *); (repeat' (first | apply And.intro | intro _)))))
    all_goals (try (simp only [IfP_iff, EqU_iff, Obl_iff, and_true, true_and, inI_iff, decide_eq_true_eq, decide_eq_false_iff_not]; (try simp only [natc, getI_gi, at2_0, at2_1]); (try dsimp only [Ty.den]); try simp only [natc] at *))
    ((try simp only [IfP_iff, and_true, true_and, decide_eq_true_eq, decide_eq_false_iff_not]); (try simp only [natc, getI_gi, at2_0, at2_1]); (try dsimp only [Ty.den]); (try simp only [natc] at *); (repeat' (first | apply And.intro | intro _)))
    all_goals (try (exact absurd (by assumption : (!polyB n) = false) (by rw [hp]; decide)))
    all_goals (try (simp only [IfP_iff, EqU_iff, Obl_iff, and_true, true_and, inI_iff, decide_eq_true_eq, decide_eq_false_iff_not]; (try simp only [natc, getI_gi, at2_0, at2_1]); (try dsimp only [Ty.den]); try simp only [natc] at *))
  have h8 : cntR n = catI n := by unfold cntR; rw [if_pos hp]
  have h9 := hp
  unfold polyB at h9
  simp only [Bool.and_eq_true, decide_eq_true_eq] at h9
  rw [hp, h8]
  refine fnS [] [2, 3] Try.func33 rfl (by decide) rfl (by decide) (by kernel_rfl) rfl (by simp [Try.ntmps33]) ?_
  cbv
  repeat' (first | ((first | refine call_q (sp_corners n) (by cbv) ?_ | refine call_pure (sp_corners n) (by cbv) ?_); cbv; ((try simp only [IfP_iff, and_true, true_and, decide_eq_true_eq, decide_eq_false_iff_not]); (try simp only [natc, getI_gi, at2_0, at2_1]); (try dsimp only [Ty.den]); (try simp only [natc] at *); (repeat' (first | apply And.intro | intro _)))))
  all_goals (try (simp only [IfP_iff, EqU_iff, Obl_iff, and_true, true_and, inI_iff, decide_eq_true_eq, decide_eq_false_iff_not]; (try simp only [natc, getI_gi, at2_0, at2_1]); (try dsimp only [Ty.den]); try simp only [natc] at *))
  ((try simp only [IfP_iff, and_true, true_and, decide_eq_true_eq, decide_eq_false_iff_not]); (try simp only [natc, getI_gi, at2_0, at2_1]); (try dsimp only [Ty.den]); (try simp only [natc] at *); (repeat' (first | apply And.intro | intro _)))
  all_goals (try (exact absurd (by assumption : (!polyB n) = true) (by rw [hp]; decide)))
  refine loopP (by kernel_rfl) (fun m : Int => 3 ≤ m ∧ m ≤ n + 1) (fun m => [(5, .int fun _ => m), (4, .ref 0), (11, .junk), (6, .junk), (7, .junk)]) (fun m => [(0, some (.row 3 .int fun _ => catL m.toNat))]) (fun m => (n + 1 - m).toNat) (· + 1) 3 (by omega) ?_ ?_
  · cbv
    (simp only [IfP_iff, EqU_iff, Obl_iff, and_true, true_and, inI_iff, decide_eq_true_eq, decide_eq_false_iff_not]; (try simp only [natc, getI_gi, at2_0, at2_1]); (try dsimp only [Ty.den]); try simp only [natc] at *)
    rfl
  · intro m hm
    have b0 := catL_len m.toNat
    have b1 := catL_next (m := m) (by omega)
    have b2 : ¬ m ≤ n → gi (catL m.toNat) n = catI n := fun h => catL_get (by omega) (by omega)
    cbv
    ((try simp only [IfP_iff, and_true, true_and, decide_eq_true_eq, decide_eq_false_iff_not]); (try simp only [natc, getI_gi, at2_0, at2_1]); (try dsimp only [Ty.den]); (try simp only [natc] at *); (repeat' (first | apply And.intro | intro _)))
    all_goals (try ((simp only [IfP_iff, EqU_iff, Obl_iff, and_true, true_and, inI_iff, decide_eq_true_eq, decide_eq_false_iff_not]; (try simp only [natc, getI_gi, at2_0, at2_1]); (try dsimp only [Ty.den]); try simp only [natc] at *); done))
    all_goals (try ((simp only [IfP_iff, EqU_iff, Obl_iff, and_true, true_and, inI_iff, decide_eq_true_eq, decide_eq_false_iff_not]; (try simp only [natc, getI_gi, at2_0, at2_1]); (try dsimp only [Ty.den]); try simp only [natc] at *); (repeat' (first | apply And.intro | intro _)) <;> first | omega | exact b2 (by assumption)))
    rotate_right 1
    have hm2 : m ≤ n := by assumption
    refine loopP (by kernel_rfl) (fun k : Int => 1 ≤ k ∧ k ≤ m - 1) (fun k => [(7, .int fun _ => k), (6, .int fun _ => sumC m.toNat (k - 1).toNat)]) (fun k => []) (fun k => (m - k).toNat) (· + 1) 1 (by omega) ?_ ?_
    · cbv
      (simp only [IfP_iff, EqU_iff, Obl_iff, and_true, true_and, inI_iff, decide_eq_true_eq, decide_eq_false_iff_not]; (try simp only [natc, getI_gi, at2_0, at2_1]); (try dsimp only [Ty.den]); try simp only [natc] at *)
      rfl
    · intro k hk
      have c1 := sum_in (c := m) (k := k) (by omega) (by omega) hk.1 (by omega)
      have c2 := sum_next (c := m) (k := k) (by omega) hk.1
      have c3 := cat_in (c := k + 1) (k := m - k) (by omega) (by omega) (by omega) (by omega)
      have c4 : ¬ k < m - 1 → catL m.toNat ++ [sumC m.toNat (k - 1).toNat] = catL (m + 1).toNat := fun h => by
        rw [b1, show k = m - 1 by omega, sum_all hm.1 (by omega)]
      have c5 : k < m - 1 → gi (catL m.toNat) (k + 1) = catI (k + 1) := fun h => catL_get (by omega) (by omega)
      have c6 : k < m - 1 → gi (catL m.toNat) (m - k) = catI (m - k) := fun h => catL_get (by omega) (by omega)
      have c7 : k < m - 1 → sumC m.toNat (k - 1).toNat + gi (catL m.toNat) (k + 1) * gi (catL m.toNat) (m - k) = sumC m.toNat (k + 1 - 1).toNat := fun h => by rw [c2, c5 h, c6 h]
      have c8 : k < m - 1 → 0 ≤ gi (catL m.toNat) (k + 1) * gi (catL m.toNat) (m - k) ∧ gi (catL m.toNat) (k + 1) * gi (catL m.toNat) (m - k) ≤ 100000 := fun h => by rw [c5 h, c6 h]; exact c3
      clear b1 b2 c2 c3 c5 c6
      cbv
      ((try simp only [IfP_iff, and_true, true_and, decide_eq_true_eq, decide_eq_false_iff_not]); (try simp only [natc, getI_gi, at2_0, at2_1]); (try dsimp only [Ty.den]); (try simp only [natc] at *); (repeat' (first | apply And.intro | intro _)))
      all_goals (try (simp only [IfP_iff, EqU_iff, Obl_iff, and_true, true_and, inI_iff, decide_eq_true_eq, decide_eq_false_iff_not]; (try simp only [natc, getI_gi, at2_0, at2_1]); (try dsimp only [Ty.den]); try simp only [natc] at *))
      all_goals ((repeat' (first | apply And.intro | intro _)) <;> first | omega | (exact c7 (by assumption)) | (exact c4 (by assumption)) | (have q := c8 (by assumption); omega) | (rw [b0, List.length_cons, List.length_nil]; omega) | trace_state)
end Go.Proofs.Ytbpheblbbdiapaa.M

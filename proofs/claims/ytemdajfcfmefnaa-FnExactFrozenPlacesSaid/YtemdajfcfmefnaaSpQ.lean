/- Spaces: whether they are valid, on both sides. -/
import Derived.Test.YtemdajfcfmefnaaQg
import Derived.Test.YtemdajfcfmefnaaQe
namespace Go.Proofs.Ytemdajfcfmefnaa.M
open Go.RowKit Abs
set_option linter.unusedSimpArgs false
set_option linter.unusedVariables false
set_option maxRecDepth 100000
set_option maxHeartbeats 4000000
def allI (n : Nat) (p : Int → Bool) : Bool := (List.range n).all fun k => p k
theorem allI_bad {n : Nat} {p : Int → Bool} {k : Int} (h0 : 0 ≤ k) (h1 : k < (n : Int)) (h : p k = false) : allI n p = false := by
  unfold allI
  rw [List.all_eq_false]
  exact ⟨k.toNat, by simp; omega, by rw [Int.toNat_of_nonneg h0, h]; simp⟩
theorem allI_good {n : Nat} {p : Int → Bool} (h : ∀ k : Int, 0 ≤ k → k < (n : Int) → p k = true) : allI n p = true := by
  unfold allI
  rw [List.all_eq_true]
  intro k hk
  exact h k (by omega) (by simpa using hk)
theorem allI_get {n : Nat} {p : Int → Bool} (h : allI n p = true) {k : Int} (h0 : 0 ≤ k) (h1 : k < (n : Int)) : p k = true := by
  unfold allI at h
  rw [List.all_eq_true] at h
  have := h k.toNat (by simp; omega)
  rwa [Int.toNat_of_nonneg h0] at this
theorem upTo {p : Int → Bool} {k : Int} (h : ∀ j : Int, 0 ≤ j → j < k → p j = true) : p k = true → ∀ j : Int, 0 ≤ j → j < k + 1 → p j = true := fun hk j h1 h2 => by
  by_cases hj : j = k
  · rw [hj]; exact hk
  · exact h j h1 (by omega)
def inB (x : Int) : Bool := decide (-99 ≤ x) && decide (x ≤ 99)
def stateOk (s : List Int) : Bool := allI s.length (fun k => inB (getI .int s k)) && decide ((s.length : Int) ≤ 24)
def goodS (l : List (List Int)) (k : Int) : Bool := stateOk (getI (.sl .int) l k) && (decide (k ≤ 0) || decide (cmpL (getI (.sl .int) l (k - 1)) (getI (.sl .int) l k) < 0))
def statesOk (l : List (List Int)) : Bool := allI l.length (goodS l)
def spaceOk (l : List (List Int)) (m : List (Int × Int)) : Bool := decide ((l.length : Int) ≤ 300) && decide ((m.length : Int) ≤ 6000) && statesOk l && pairsOk m l.length
theorem sp_state (s : List Int) (hl : s.length ≤ 1048576) : Spec2 Try.prog 88 [.sl .int fun _ => s] [] [.bool fun _ => stateOk s] [] := by
  refine fnS [] [2] Try.func88 rfl (by decide) rfl (by decide) (by kernel_rfl) rfl (by simp [Try.ntmps88]) ?_
  cbv
  refine loopP (by kernel_rfl) (fun k : Int => 0 ≤ k ∧ k ≤ s.length ∧ ∀ j : Int, 0 ≤ j → j < k → inB (getI .int s j) = true) (fun k => [(3, .int fun _ => k)]) (fun _ => []) (fun k => (s.length - k).toNat) (· + 1) 0 (by grind) ?_ ?_
  · cbv
    (simp only [IfP_iff, EqU_iff, Obl_iff, and_true, true_and, inI_iff, decide_eq_true_eq, decide_eq_false_iff_not]; (try simp only [natc, at2_0, at2_1]); (try dsimp only [Ty.den]); try simp only [natc] at *)
  · intro k hk
    have h1 := allI_bad (n := s.length) (p := fun k => inB (getI .int s k)) (k := k)
    have h2 := allI_good (n := s.length) (p := fun k => inB (getI .int s k))
    have h3 := upTo (p := fun k => inB (getI .int s k)) hk.2.2
    have h4 : inB (getI .int s k) = _ := rfl
    conv at h4 => rhs; unfold inB
    have h5 : stateOk s = _ := rfl
    conv at h5 => rhs; unfold stateOk
    cbv
    ((try simp only [IfP_iff, and_true, true_and, decide_eq_true_eq, decide_eq_false_iff_not]); (try simp only [natc, at2_0, at2_1]); (try dsimp only [Ty.den]); (try simp only [natc] at *); (repeat' (first | apply And.intro | intro _)))
    repeat' (first | ((first | refine call_q (sp_in _ _ _) (by cbv) ?_ | refine call_pure (sp_in _ _ _) (by cbv) ?_); cbv; ((try simp only [IfP_iff, and_true, true_and, decide_eq_true_eq, decide_eq_false_iff_not]); (try simp only [natc, at2_0, at2_1]); (try dsimp only [Ty.den]); (try simp only [natc] at *); (repeat' (first | apply And.intro | intro _)))))
    all_goals (try (simp only [IfP_iff, EqU_iff, Obl_iff, and_true, true_and, inI_iff, decide_eq_true_eq, decide_eq_false_iff_not]; (try simp only [natc, at2_0, at2_1]); (try dsimp only [Ty.den]); try simp only [natc] at *))
    all_goals ((repeat' (first | apply And.intro | intro _)) <;> first | omega | (simp only [List.length_append, List.length_cons, List.length_nil]; omega) | grind)
theorem cmpL_nil_r : ∀ {x : List Int}, cmpL x [] < 0 ↔ False
  | [] => by simp [cmpL]
  | a :: x => by simp [cmpL]
theorem cmpL_nil_l : ∀ {y : List Int}, cmpL [] y < 0 ↔ 0 < y.length
  | [] => by simp [cmpL]
  | a :: x => by simp [cmpL]
theorem sp_before (x y : List Int) (hx : x.length ≤ 1048576) (hy : y.length ≤ 1048576) : Spec2 Try.prog 89 [.sl .int fun _ => x, .sl .int fun _ => y] [] [.bool fun _ => decide (cmpL x y < 0)] [] := by
  refine fnS [] [4] Try.func89 rfl (by decide) rfl (by decide) (by kernel_rfl) rfl (by simp [Try.ntmps89]) ?_
  cbv
  refine loopP (by kernel_rfl) (fun k : Int => 0 ≤ k ∧ k ≤ x.length ∧ k ≤ y.length ∧ x.take k.toNat = y.take k.toNat) (fun k => [(5, .int fun _ => k)]) (fun _ => []) (fun k => (x.length - k).toNat) (· + 1) 0 (by simp) ?_ ?_
  · cbv
    (simp only [IfP_iff, EqU_iff, Obl_iff, and_true, true_and, inI_iff, decide_eq_true_eq, decide_eq_false_iff_not]; (try simp only [natc, at2_0, at2_1]); (try dsimp only [Ty.den]); try simp only [natc] at *)
  · intro k hk
    have h1 := cmp_at (x := x) (y := y) (k := k)
    have h2 := cmpL_take (x := x) (y := y) (k := k.toNat)
    have h3 := take_getI (t := .int) (l := x) (i := k)
    have h4 := take_getI (t := .int) (l := y) (i := k)
    have h5 := @cmp_same (getI .int x k) (getI .int y k)
    have h6 : cmpI (getI .int x k) (getI .int y k) = _ := rfl
    conv at h6 => rhs; unfold cmpI
    have h7 : ¬ k < (x.length : Int) ∨ ¬ k < (y.length : Int) → (cmpL x y < 0 ↔ x.length < y.length) := fun h => by
      rw [h2 hk.2.2.2 (by omega) (by omega)]
      rcases h with h | h
      · rw [show x.drop k.toNat = [] from List.drop_eq_nil_of_le (by omega), cmpL_nil_l, List.length_drop]; omega
      · rw [show y.drop k.toNat = [] from List.drop_eq_nil_of_le (by omega), cmpL_nil_r]; exact ⟨False.elim, fun hh => by omega⟩
    cbv
    ((try simp only [IfP_iff, and_true, true_and, decide_eq_true_eq, decide_eq_false_iff_not]); (try simp only [natc, at2_0, at2_1]); (try dsimp only [Ty.den]); (try simp only [natc] at *); (repeat' (first | apply And.intro | intro _)))
    all_goals (try (simp only [IfP_iff, EqU_iff, Obl_iff, and_true, true_and, inI_iff, decide_eq_true_eq, decide_eq_false_iff_not]; (try simp only [natc, at2_0, at2_1]); (try dsimp only [Ty.den]); try simp only [natc] at *))
    all_goals ((repeat' (first | apply And.intro | intro _)) <;> first | omega | (simp only [List.length_append, List.length_cons, List.length_nil]; omega) | grind)
theorem sp_space (L : List (List Int)) (l : List (Int × Int)) (hL : L.length ≤ 1048576) (hl : l.length ≤ 1048576) (hm : ∀ s ∈ L, s.length ≤ 1048576) : Spec2 Try.prog 72 [.agg (.pr (.sl (.sl .int)) (.sl (.pr .int .int))) fun _ => (L, l)] [] [.bool fun _ => spaceOk L l] [] := by
  have hg : ∀ k : Int, (getI (.sl .int) L k).length ≤ 1048576 := fun k => by
    unfold getI
    rw [List.getD_eq_getElem?_getD]
    cases h : L[k.toNat]? with
    | none => show 0 ≤ _; omega
    | some s => exact hm s (List.mem_of_getElem? h)
  have h5 : spaceOk L l = _ := rfl
  conv at h5 => rhs; unfold spaceOk statesOk
  refine fnS [] [2] Try.func72 rfl (by decide) rfl (by decide) (by kernel_rfl) rfl (by simp [Try.ntmps72]) ?_
  cbv
  ((try simp only [IfP_iff, and_true, true_and, decide_eq_true_eq, decide_eq_false_iff_not]); (try simp only [natc, at2_0, at2_1]); (try dsimp only [Ty.den]); (try simp only [natc] at *); (repeat' (first | apply And.intro | intro _)))
  all_goals (try (simp only [IfP_iff, EqU_iff, Obl_iff, and_true, true_and, inI_iff, decide_eq_true_eq, decide_eq_false_iff_not]; (try simp only [natc, at2_0, at2_1]); (try dsimp only [Ty.den]); try simp only [natc] at *))
  · grind
  · grind
  refine loopP (by kernel_rfl) (fun k : Int => 0 ≤ k ∧ k ≤ L.length ∧ ∀ j : Int, 0 ≤ j → j < k → goodS L j = true) (fun k => [(3, .int fun _ => k)]) (fun _ => []) (fun k => (L.length - k).toNat) (· + 1) 0 (by grind) ?_ ?_
  · cbv
    (simp only [IfP_iff, EqU_iff, Obl_iff, and_true, true_and, inI_iff, decide_eq_true_eq, decide_eq_false_iff_not]; (try simp only [natc, at2_0, at2_1]); (try dsimp only [Ty.den]); try simp only [natc] at *)
  · intro k hk
    have h1 := allI_bad (n := L.length) (p := goodS L) (k := k)
    have h2 := allI_good (n := L.length) (p := goodS L)
    have h3 := upTo (p := goodS L) hk.2.2
    have h4 : goodS L k = _ := rfl
    conv at h4 => rhs; unfold goodS
    cbv
    ((try simp only [IfP_iff, and_true, true_and, decide_eq_true_eq, decide_eq_false_iff_not]); (try simp only [natc, at2_0, at2_1]); (try dsimp only [Ty.den]); (try simp only [natc] at *); (repeat' (first | apply And.intro | intro _)))
    repeat' (first | ((first | refine call_q (sp_state _ (hg _)) (by cbv) ?_ | refine call_pure (sp_state _ (hg _)) (by cbv) ?_); cbv; ((try simp only [IfP_iff, and_true, true_and, decide_eq_true_eq, decide_eq_false_iff_not]); (try simp only [natc, at2_0, at2_1]); (try dsimp only [Ty.den]); (try simp only [natc] at *); (repeat' (first | apply And.intro | intro _)))) | ((first | refine call_q (sp_before _ _ (hg _) (hg _)) (by cbv) ?_ | refine call_pure (sp_before _ _ (hg _) (hg _)) (by cbv) ?_); cbv; ((try simp only [IfP_iff, and_true, true_and, decide_eq_true_eq, decide_eq_false_iff_not]); (try simp only [natc, at2_0, at2_1]); (try dsimp only [Ty.den]); (try simp only [natc] at *); (repeat' (first | apply And.intro | intro _)))) | ((first | refine call_q (sp_pairs l L.length (by omega) (by omega) hl) (by cbv) ?_ | refine call_pure (sp_pairs l L.length (by omega) (by omega) hl) (by cbv) ?_); cbv; ((try simp only [IfP_iff, and_true, true_and, decide_eq_true_eq, decide_eq_false_iff_not]); (try simp only [natc, at2_0, at2_1]); (try dsimp only [Ty.den]); (try simp only [natc] at *); (repeat' (first | apply And.intro | intro _)))))
    all_goals (try (simp only [IfP_iff, EqU_iff, Obl_iff, and_true, true_and, inI_iff, decide_eq_true_eq, decide_eq_false_iff_not]; (try simp only [natc, at2_0, at2_1]); (try dsimp only [Ty.den]); try simp only [natc] at *))
    all_goals ((repeat' (first | apply And.intro | intro _)) <;> first | omega | (simp only [List.length_append, List.length_cons, List.length_nil]; omega) | grind)
end Go.Proofs.Ytemdajfcfmefnaa.M

/- What the program answers: comparing lists of integers. -/
import Derived.Test.YtbkdmnohpjihgaaNs
namespace Go.Proofs.Ytbkdmnohpjihgaa.M
open Go.RowKit Abs
set_option linter.unusedSimpArgs false
set_option linter.unusedVariables false
set_option maxRecDepth 100000
def cmpI (a b : Int) : Int := if a < b then -1 else if b < a then 1 else 0
def cmpL : List Int → List Int → Int
  | [], [] => 0
  | [], _ :: _ => -1
  | _ :: _, [] => 1
  | a :: x, b :: y => if cmpI a b = 0 then cmpL x y else cmpI a b
theorem go_isNaN (a : Int) : Spec2 Try.prog 134 [.int fun _ => a] [] [.bool fun _ => false] [] := by
  refine fnS [] [2] Try.func134 rfl (by decide) rfl (by decide) (by kernel_rfl) rfl (by simp [Try.ntmps134]) ?_
  cbv
  simp only [IfP_iff, EqU_iff, Obl_iff, and_true, true_and, inI_iff, decide_eq_true_eq, decide_eq_false_iff_not]
  simp
theorem go_cmp (a b : Int) : Spec2 Try.prog 128 [.int fun _ => a, .int fun _ => b] [] [.int fun _ => cmpI a b] [] := by
  refine fnS [] [4] Try.func128 rfl (by decide) rfl (by decide) (by kernel_rfl) rfl (by simp [Try.ntmps128]) ?_
  cbv
  repeat' (((first | refine call_q (go_isNaN _) (by cbv) ?_ | refine call_pure (go_isNaN _) (by cbv) ?_); cbv; ((try simp only [IfP_iff, and_true, true_and, decide_eq_true_eq, decide_eq_false_iff_not]); (repeat' (first | apply And.intro | intro _)))))
  all_goals (try simp only [IfP_iff, EqU_iff, Obl_iff, and_true, true_and, inI_iff, decide_eq_true_eq, decide_eq_false_iff_not])
  all_goals (unfold cmpI)
  all_goals ((repeat' (first | apply And.intro | intro _)) <;> first | omega | grind)
theorem cmpL_take {x y : List Int} {k : Nat} (h : x.take k = y.take k) (hx : k ≤ x.length) (hy : k ≤ y.length) : cmpL x y = cmpL (x.drop k) (y.drop k) := by
  induction k generalizing x y with
  | zero => simp
  | succ k ih =>
    cases x with
    | nil => simp at hx
    | cons a x =>
      cases y with
      | nil => simp at hy
      | cons b y =>
        simp only [List.take_succ_cons, List.cons.injEq] at h
        simp only [List.length_cons] at hx hy
        simp only [cmpL, List.drop_succ_cons]
        rw [ih h.2 (by omega) (by omega), h.1]
        simp [cmpI]
theorem cmp_at {x y : List Int} {k : Int} (h0 : 0 ≤ k) (h1 : k < (x.length : Int)) (h2 : k < (y.length : Int)) (h : x.take k.toNat = y.take k.toNat) : cmpL x y = if cmpI (getI .int x k) (getI .int y k) = 0 then cmpL (x.drop (k + 1).toNat) (y.drop (k + 1).toNat) else cmpI (getI .int x k) (getI .int y k) := by
  have e : (k + 1).toNat = k.toNat + 1 := by omega
  have hx := getI_get (t := .int) h0 h1
  have hy := getI_get (t := .int) h0 h2
  obtain ⟨hx1, hx2⟩ := List.getElem?_eq_some_iff.1 hx
  obtain ⟨hy1, hy2⟩ := List.getElem?_eq_some_iff.1 hy
  rw [cmpL_take h (by omega) (by omega), List.drop_eq_getElem_cons hx1, List.drop_eq_getElem_cons hy1, hx2, hy2, e]
  rfl
theorem cmp_same {a b : Int} : cmpI a b = 0 ↔ a = b := by unfold cmpI; grind
theorem go_compare (x y : List Int) (hx : x.length ≤ 1048576) (hy : y.length ≤ 1048576) : Spec2 Try.prog 112 [.sl .int fun _ => x, .sl .int fun _ => y] [] [.int fun _ => cmpL x y] [] := by
  refine fnS [] [4] Try.func112 rfl (by decide) rfl (by decide) (by kernel_rfl) rfl (by simp [Try.ntmps112]) ?_
  cbv
  refine loopK (by kernel_rfl) (fun k : Int => 0 ≤ k ∧ k ≤ x.length ∧ (k ≤ y.length) ∧ x.take k.toNat = y.take k.toNat) (fun k => ⟨mkT 36 [(0, .sl .int fun _ => x), (1, .sl .int fun _ => y), (9, .sl .int fun _ => x), (10, .int fun _ => (x.length : Int)), (11, .int fun _ => k)], [], 0⟩) (fun k => (x.length - k).toNat) (· + 1) 0 (by simp) ?_ ?_
  · cbv
    try simp only [IfP_iff, EqU_iff, Obl_iff, and_true, true_and, inI_iff, decide_eq_true_eq, decide_eq_false_iff_not]
  · intro k hk
    have h1 := cmp_at (x := x) (y := y) (k := k)
    have h2 := cmpL_take (x := x) (y := y) (k := k.toNat)
    have h3 := take_getI (t := .int) (l := x) (i := k)
    have h4 := take_getI (t := .int) (l := y) (i := k)
    have h5 := @cmp_same (getI .int x k) (getI .int y k)
    have h6 : ∀ (l : List Int), cmpL [] l = if l.length = 0 then 0 else -1 := fun l => by cases l <;> simp [cmpL]
    have h7 : ∀ (l : List Int), cmpL l [] = if l.length = 0 then 0 else 1 := fun l => by cases l <;> simp [cmpL]
    have h8 : ∀ (l : List Int) (i : Nat), l.length ≤ i → l.drop i = [] := fun l i h => List.drop_eq_nil_of_le h
    have h9 : ∀ (l : List Int) (i : Nat), (l.drop i).length = l.length - i := fun l i => List.length_drop
    cbv
    ((try simp only [IfP_iff, and_true, true_and, decide_eq_true_eq, decide_eq_false_iff_not]); (repeat' (first | apply And.intro | intro _)))
    repeat' (((first | refine call_q (go_cmp _ _) (by cbv) ?_ | refine call_pure (go_cmp _ _) (by cbv) ?_); cbv; ((try simp only [IfP_iff, and_true, true_and, decide_eq_true_eq, decide_eq_false_iff_not]); (repeat' (first | apply And.intro | intro _)))))
    all_goals (try simp only [IfP_iff, EqU_iff, Obl_iff, and_true, true_and, inI_iff, decide_eq_true_eq, decide_eq_false_iff_not])
    all_goals ((repeat' (first | apply And.intro | intro _)) <;> first | omega | grind)
end Go.Proofs.Ytbkdmnohpjihgaa.M

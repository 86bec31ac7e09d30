/- slices.Contains, ContainsFunc over pairs; ascending lists of nodes, on both sides. -/
import Derived.Test.YtlfdimhnielleaaSiQVPolygonSpace
namespace Go.Proofs.Ytlfdimhnielleaa.M
open Go.RowKit Abs
set_option linter.unusedSimpArgs false
set_option linter.unusedVariables false
set_option maxRecDepth 100000
set_option maxHeartbeats 4000000
theorem go_index (l : List Int) (v : Int) (hl : l.length ≤ 1048576) :
    Spec2 Try.prog 124 [.sl .int fun _ => l, .int fun _ => v] [] [.int fun _ => findI l fun x => decide (v = x)] [] := by
  refine fnS [] [4] Try.func124 rfl (by decide) rfl (by decide) (by kernel_rfl) rfl (by simp [Try.ntmps124]) ?_
  cbv
  refine loopP (by kernel_rfl) (fun k : Int => 0 ≤ k ∧ k ≤ l.length ∧ ∀ j : Int, 0 ≤ j → j < k → decide (v = getI .int l j) = false) (fun k => [(8, .int fun _ => k)]) (fun _ => []) (fun k => (l.length - k).toNat) (· + 1) 0 (by grind) ?_ ?_
  · cbv
    (simp only [IfP_iff, EqU_iff, Obl_iff, and_true, true_and, inI_iff, decide_eq_true_eq, decide_eq_false_iff_not]; (try simp only [natc, at2_0, at2_1]); (try dsimp only [Ty.den]); try simp only [natc] at *)
  · intro k hk
    have h1 := findI_hit (l := l) (q := fun x => decide (v = x)) (k := k)
    have h2 := findI_none (l := l) (q := fun x => decide (v = x))
    have h3 := upTo (p := fun j => !decide (v = getI .int l j)) (k := k) (by simpa using hk.2.2)
    simp only [Bool.not_eq_true'] at h3
    cbv
    ((try simp only [IfP_iff, and_true, true_and, decide_eq_true_eq, decide_eq_false_iff_not]); (try simp only [natc, at2_0, at2_1]); (try dsimp only [Ty.den]); (try simp only [natc] at *); (repeat' (first | apply And.intro | intro _)))
    all_goals (try (simp only [IfP_iff, EqU_iff, Obl_iff, and_true, true_and, inI_iff, decide_eq_true_eq, decide_eq_false_iff_not]; (try simp only [natc, at2_0, at2_1]); (try dsimp only [Ty.den]); try simp only [natc] at *))
    all_goals ((repeat' (first | apply And.intro | intro _)) <;> first | omega | (simp only [List.length_append, List.length_cons, List.length_nil]; omega) | grind)
def hasB (l : List Int) (v : Int) : Bool := l.any fun x => decide (v = x)
theorem hasB_iff {l : List Int} {v : Int} : hasB l v = true ↔ v ∈ l := by
  unfold hasB
  rw [List.any_eq_true]
  constructor
  · rintro ⟨x, hx, h⟩; simp only [decide_eq_true_eq] at h; rw [h]; exact hx
  · intro h; exact ⟨v, h, by simp⟩
theorem go_contains (l : List Int) (v : Int) (hl : l.length ≤ 1048576) :
    Spec2 Try.prog 99 [.sl .int fun _ => l, .int fun _ => v] [] [.bool fun _ => hasB l v] [] := by
  have h1 := findI_any l fun x => decide (v = x)
  have h2 : hasB l v = _ := rfl
  conv at h2 => rhs; unfold hasB
  refine fnS [] [4] Try.func99 rfl (by decide) rfl (by decide) (by kernel_rfl) rfl (by simp [Try.ntmps99]) ?_
  cbv
  ((first | refine call_q (go_index l v hl) (by cbv) ?_ | refine call_pure (go_index l v hl) (by cbv) ?_); cbv; ((try simp only [IfP_iff, and_true, true_and, decide_eq_true_eq, decide_eq_false_iff_not]); (try simp only [natc, at2_0, at2_1]); (try dsimp only [Ty.den]); (try simp only [natc] at *); (repeat' (first | apply And.intro | intro _))))
  (simp only [IfP_iff, EqU_iff, Obl_iff, and_true, true_and, inI_iff, decide_eq_true_eq, decide_eq_false_iff_not]; (try simp only [natc, at2_0, at2_1]); (try dsimp only [Ty.den]); try simp only [natc] at *)
  grind
def findP (l : List (Int × Int)) (q : Int × Int → Bool) : Int := match l.findIdx? q with | some i => i | none => -1
def nodeOk (n : Int) (s : List Int) (k : Int) : Bool := (decide (0 ≤ getI .int s k) && decide (getI .int s k < n)) && (decide (k ≤ 0) || decide (getI .int s (k - 1) < getI .int s k))
def ascB (n : Int) (s : List Int) : Bool := allI s.length (nodeOk n s)
theorem mem_at {s : List Int} {x : Int} (h : x ∈ s) : ∃ j : Int, 0 ≤ j ∧ j < s.length ∧ getI .int s j = x := by
  obtain ⟨j, hj, rfl⟩ := List.mem_iff_getElem.1 h
  have h2 := (List.getElem?_eq_some_iff.1 (getI_get (t := .int) (l := s) (i := (j : Int)) (by omega) (by omega))).2
  simp only [Int.toNat_natCast] at h2
  exact ⟨j, by omega, by omega, h2.symm⟩
def incOk (s : List Int) (k : Int) : Bool := decide (k ≤ 0) || decide (getI .int s (k - 1) < getI .int s k)
def incB (s : List Int) : Bool := allI s.length (incOk s)
theorem im_isAscending (s : List Int) (hs : s.length ≤ 1048576) : Spec2 Try.prog 105 [.sl .int fun _ => s] [] [.bool fun _ => incB s] [] := by
  have h9 : incB s = _ := rfl
  conv at h9 => rhs; unfold incB
  refine fnS [] [2] Try.func105 rfl (by decide) rfl (by decide) (by kernel_rfl) rfl (by simp [Try.ntmps105]) ?_
  cbv
  refine loopP (by kernel_rfl) (fun k : Int => 0 ≤ k ∧ k ≤ s.length ∧ ∀ j : Int, 0 ≤ j → j < k → incOk s j = true) (fun k => [(7, .int fun _ => k)]) (fun _ => []) (fun k => (s.length - k).toNat) (· + 1) 0 (by grind) ?_ ?_
  · cbv
    (simp only [IfP_iff, EqU_iff, Obl_iff, and_true, true_and, inI_iff, decide_eq_true_eq, decide_eq_false_iff_not]; (try simp only [natc, at2_0, at2_1]); (try dsimp only [Ty.den]); try simp only [natc] at *)
  · intro k hk
    have h1 := allI_bad (n := s.length) (p := incOk s) (k := k)
    have h2 := allI_good (n := s.length) (p := incOk s)
    have h3 := upTo (p := incOk s) hk.2.2
    have h4 : incOk s k = _ := rfl
    conv at h4 => rhs; unfold incOk
    cbv
    ((try simp only [IfP_iff, and_true, true_and, decide_eq_true_eq, decide_eq_false_iff_not]); (try simp only [natc, at2_0, at2_1]); (try dsimp only [Ty.den]); (try simp only [natc] at *); (repeat' (first | apply And.intro | intro _)))
    all_goals (try (simp only [IfP_iff, EqU_iff, Obl_iff, and_true, true_and, inI_iff, decide_eq_true_eq, decide_eq_false_iff_not]; (try simp only [natc, at2_0, at2_1]); (try dsimp only [Ty.den]); try simp only [natc] at *))
    all_goals ((repeat' (first | apply And.intro | intro _)) <;> first | omega | (simp only [List.length_append, List.length_cons, List.length_nil]; omega) | grind)
def outI (n x : Int) : Bool := !(decide (0 ≤ x) && decide (x < n))
def riseOk (s : List Int) (a b k : Int) : Bool := (decide (a ≤ getI .int s k) && decide (getI .int s k ≤ b)) && (decide (k ≤ 0) || decide (getI .int s (k - 1) < getI .int s k))
def riseB (s : List Int) (a b : Int) : Bool := allI s.length (riseOk s a b)
end Go.Proofs.Ytlfdimhnielleaa.M

/- Spaces: whether they are valid, in the program. -/
import Derived.Test.YthogfineaeklpaaSpQ
namespace Go.Proofs.Ythogfineaeklpaa.M
open Go.RowKit Abs
set_option linter.unusedSimpArgs false
set_option linter.unusedVariables false
set_option maxRecDepth 100000
set_option maxHeartbeats 4000000
def findI (l : List Int) (q : Int → Bool) : Int := match l.findIdx? q with | some i => i | none => -1
theorem findI_hit {l : List Int} {q : Int → Bool} {k : Int} (h0 : 0 ≤ k) (h1 : k < (l.length : Int)) (hq : q (getI .int l k) = true) (hn : ∀ j : Int, 0 ≤ j → j < k → q (getI .int l j) = false) : findI l q = k := by
  have e : l.findIdx? q = some k.toNat := by
    rw [List.findIdx?_eq_some_iff_getElem]
    have hg := fun (j : Nat) (hj : j < l.length) => (List.getElem?_eq_some_iff.1 (getI_get (t := .int) (l := l) (i := (j : Int)) (by omega) (by omega)))
    refine ⟨by omega, ?_, fun j hj => ?_⟩
    · have := (List.getElem?_eq_some_iff.1 (getI_get (t := .int) h0 h1)).2
      rw [this]; exact hq
    · have h2 := (List.getElem?_eq_some_iff.1 (getI_get (t := .int) (l := l) (i := (j : Int)) (by omega) (by omega))).2
      have h3 := hn j (by omega) (by omega)
      simp only [Int.toNat_natCast] at h2
      rw [h2, h3]; simp
  unfold findI
  rw [e]
  show ((k.toNat : Nat) : Int) = k
  omega
theorem findI_none {l : List Int} {q : Int → Bool} (hn : ∀ j : Int, 0 ≤ j → j < (l.length : Int) → q (getI .int l j) = false) : findI l q = -1 := by
  have e : l.findIdx? q = none := by
    rw [List.findIdx?_eq_none_iff]
    intro x hx
    obtain ⟨j, hj, rfl⟩ := List.mem_iff_getElem.1 hx
    have h2 := (List.getElem?_eq_some_iff.1 (getI_get (t := .int) (l := l) (i := (j : Int)) (by omega) (by omega))).2
    have h3 := hn j (by omega) (by omega)
    simp only [Int.toNat_natCast] at h2
    rw [h2, h3]
  unfold findI
  rw [e]
theorem findI_any (l : List Int) (q : Int → Bool) : decide (0 ≤ findI l q) = l.any q := by
  unfold findI
  cases h : l.findIdx? q with
  | none =>
    rw [List.findIdx?_eq_none_iff] at h
    have : l.any q = false := by rw [List.any_eq_false]; intro x hx; simp [h x hx]
    rw [this]; decide
  | some i =>
    rw [List.findIdx?_eq_some_iff_getElem] at h
    obtain ⟨h1, h2, _⟩ := h
    have : l.any q = true := by rw [List.any_eq_true]; exact ⟨_, List.getElem_mem h1, h2⟩
    rw [this]; simp
theorem go_indexF (f : FuncId) (c : Unit → CapR) (q : Int → Bool) (l : List Int) (hl : l.length ≤ 1048576) (hf : ∀ x ∈ l, Fn1 Try.prog tab f c [.int fun _ => x] [.bool fun _ => q x]) :
    Spec2 Try.prog 123 [.sl .int fun _ => l, .fnr f c] [] [.int fun _ => findI l q] [] := by
  refine fnS [] [4] Try.func123 rfl (by decide) rfl (by decide) (by kernel_rfl) rfl (by simp [Try.ntmps123]) ?_
  cbv
  refine loopP (by kernel_rfl) (fun k : Int => 0 ≤ k ∧ k ≤ l.length ∧ ∀ j : Int, 0 ≤ j → j < k → q (getI .int l j) = false) (fun k => [(8, .int fun _ => k)]) (fun _ => []) (fun k => (l.length - k).toNat) (· + 1) 0 (by grind) ?_ ?_
  · cbv
    (simp only [IfP_iff, EqU_iff, Obl_iff, and_true, true_and, inI_iff, decide_eq_true_eq, decide_eq_false_iff_not]; (try simp only [natc, at2_0, at2_1]); (try dsimp only [Ty.den]); try simp only [natc] at *)
  · intro k hk
    have h1 := findI_hit (l := l) (q := q) (k := k)
    have h2 := findI_none (l := l) (q := q)
    have h3 := upTo (p := fun j => !q (getI .int l j)) (k := k) (by simpa using hk.2.2)
    simp only [Bool.not_eq_true'] at h3
    have h4 : 0 ≤ k → k < (l.length : Int) → getI .int l k ∈ l := fun a b => List.mem_of_getElem? (getI_get (t := .int) a b)
    cbv
    ((try simp only [IfP_iff, and_true, true_and, decide_eq_true_eq, decide_eq_false_iff_not]); (try simp only [natc, at2_0, at2_1]); (try dsimp only [Ty.den]); (try simp only [natc] at *); (repeat' (first | apply And.intro | intro _)))
    repeat' (first | ((first | refine call_fnq (hf _ (h4 hk.1 (by assumption))) rfl (by cbv) ?_ | refine call_fn (hf _ (h4 hk.1 (by assumption))) rfl (by cbv) ?_); cbv; ((try simp only [IfP_iff, and_true, true_and, decide_eq_true_eq, decide_eq_false_iff_not]); (try simp only [natc, at2_0, at2_1]); (try dsimp only [Ty.den]); (try simp only [natc] at *); (repeat' (first | apply And.intro | intro _)))))
    all_goals (try (simp only [IfP_iff, EqU_iff, Obl_iff, and_true, true_and, inI_iff, decide_eq_true_eq, decide_eq_false_iff_not]; (try simp only [natc, at2_0, at2_1]); (try dsimp only [Ty.den]); try simp only [natc] at *))
    all_goals ((repeat' (first | apply And.intro | intro _)) <;> first | omega | (simp only [List.length_append, List.length_cons, List.length_nil]; omega) | grind)
theorem go_containsF (f : FuncId) (c : Unit → CapR) (q : Int → Bool) (l : List Int) (hl : l.length ≤ 1048576) (hf : ∀ x ∈ l, Fn1 Try.prog tab f c [.int fun _ => x] [.bool fun _ => q x]) :
    Spec2 Try.prog 113 [.sl .int fun _ => l, .fnr f c] [] [.bool fun _ => l.any q] [] := by
  have h1 := findI_any l q
  refine fnS [] [4] Try.func113 rfl (by decide) rfl (by decide) (by kernel_rfl) rfl (by simp [Try.ntmps113]) ?_
  cbv
  ((first | refine call_q (go_indexF f c q l hl hf) (by cbv) ?_ | refine call_pure (go_indexF f c q l hl hf) (by cbv) ?_); cbv; ((try simp only [IfP_iff, and_true, true_and, decide_eq_true_eq, decide_eq_false_iff_not]); (try simp only [natc, at2_0, at2_1]); (try dsimp only [Ty.den]); (try simp only [natc] at *); (repeat' (first | apply And.intro | intro _))))
  (simp only [IfP_iff, EqU_iff, Obl_iff, and_true, true_and, inI_iff, decide_eq_true_eq, decide_eq_false_iff_not]; (try simp only [natc, at2_0, at2_1]); (try dsimp only [Ty.den]); try simp only [natc] at *)
  grind
def outB (m x : Int) : Bool := decide (x < 0 - m) || decide (m < x)
theorem any_allI {l : List Int} : (!l.any (outB 99)) = allI l.length fun k => inB (getI .int l k) := by
  have e : ∀ x, outB 99 x = !inB x := fun x => by simp only [outB, inB]; grind
  cases h : l.any (outB 99) with
  | true =>
    rw [List.any_eq_true] at h
    obtain ⟨x, hx, hq⟩ := h
    obtain ⟨j, hj, rfl⟩ := List.mem_iff_getElem.1 hx
    have h2 := (List.getElem?_eq_some_iff.1 (getI_get (t := .int) (l := l) (i := (j : Int)) (by omega) (by omega))).2
    simp only [Int.toNat_natCast] at h2
    rw [allI_bad (k := (j : Int)) (by omega) (by omega) (by rw [← h2]; rw [e] at hq; simpa using hq)]
    rfl
  | false =>
    rw [List.any_eq_false] at h
    rw [allI_good fun k h0 h1 => by
      have := h _ (List.mem_of_getElem? (getI_get (t := .int) h0 h1))
      rw [e] at this
      simpa using this]
    rfl
def inAll (n : Int) (ps : List Int) : Bool := allI ps.length fun k => decide (0 ≤ getI .int ps k) && decide (getI .int ps k < n)
end Go.Proofs.Ythogfineaeklpaa.M

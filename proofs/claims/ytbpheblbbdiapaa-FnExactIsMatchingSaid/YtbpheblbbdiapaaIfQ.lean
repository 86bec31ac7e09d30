/- Formulas: the laws' helpers; whether one is valid, on both sides. -/
import Derived.Test.YtbpheblbbdiapaaLrQ
import Derived.Test.YtbpheblbbdiapaaCtQ
import Derived.Test.YtbpheblbbdiapaaQg
namespace Go.Proofs.Ytbpheblbbdiapaa.M
open Go.RowKit Abs
set_option linter.unusedSimpArgs false
set_option linter.unusedVariables false
set_option maxRecDepth 100000
set_option maxHeartbeats 4000000
/-- Rows of which one is as told. -/
def findR (l : List (List Int)) (q : List Int → Bool) : Int := match l.findIdx? q with | some i => i | none => -1
theorem findR_hit {l : List (List Int)} {q : List Int → Bool} {k : Int} (h0 : 0 ≤ k) (h1 : k < (l.length : Int)) (hq : q (getR .int l k) = true) (hn : ∀ j : Int, 0 ≤ j → j < k → q (getR .int l j) = false) : findR l q = k := by
  have e : l.findIdx? q = some k.toNat := by
    rw [List.findIdx?_eq_some_iff_getElem]
    refine ⟨by omega, ?_, fun j hj => ?_⟩
    · have := (List.getElem?_eq_some_iff.1 (getR_get (t := .int) h0 h1)).2
      rw [this]; exact hq
    · have h2 := (List.getElem?_eq_some_iff.1 (getR_get (t := .int) (l := l) (i := (j : Int)) (by omega) (by omega))).2
      have h3 := hn j (by omega) (by omega)
      simp only [Int.toNat_natCast] at h2
      rw [h2, h3]; simp
  unfold findR
  rw [e]
  show ((k.toNat : Nat) : Int) = k
  omega
theorem findR_none {l : List (List Int)} {q : List Int → Bool} (hn : ∀ j : Int, 0 ≤ j → j < (l.length : Int) → q (getR .int l j) = false) : findR l q = -1 := by
  have e : l.findIdx? q = none := by
    rw [List.findIdx?_eq_none_iff]
    intro x hx
    obtain ⟨j, hj, rfl⟩ := List.mem_iff_getElem.1 hx
    have h2 := (List.getElem?_eq_some_iff.1 (getR_get (t := .int) (l := l) (i := (j : Int)) (by omega) (by omega))).2
    have h3 := hn j (by omega) (by omega)
    simp only [Int.toNat_natCast] at h2
    rw [h2, h3]
  unfold findR
  rw [e]
theorem findR_any (l : List (List Int)) (q : List Int → Bool) : decide (0 ≤ findR l q) = l.any q := by
  unfold findR
  cases h : l.findIdx? q with
  | none =>
    rw [List.findIdx?_eq_none_iff] at h
    have : l.any q = false := by rw [List.any_eq_false]; intro x hx; simp [h x hx]
    rw [this]; decide
  | some i =>
    rw [List.findIdx?_eq_some_iff_getElem] at h
    obtain ⟨h1, h2, _⟩ := h
    have : l.any q = true := by rw [List.any_eq_true]; exact ⟨_, List.getElem_mem h1, h2⟩
    rw [this]; simp
theorem go_indexFR (f : FuncId) (c : Unit → CapR) (q : List Int → Bool) (l : List (List Int)) (hl : l.length ≤ 1048576) (hf : ∀ x ∈ l, Fn1 Try.prog tab f c [.sl .int fun _ => x] [.bool fun _ => q x]) :
    Spec2 Try.prog 94 [.sl (.sl .int) fun _ => l, .fnr f c] [] [.int fun _ => findR l q] [] := by
  refine fnS [] [4] Try.func94 rfl (by decide) rfl (by decide) (by kernel_rfl) rfl (by simp [Try.ntmps94]) ?_
  cbv
  refine loopP (by kernel_rfl) (fun k : Int => 0 ≤ k ∧ k ≤ l.length ∧ ∀ j : Int, 0 ≤ j → j < k → q (getR .int l j) = false) (fun k => [(8, .int fun _ => k)]) (fun _ => []) (fun k => (l.length - k).toNat) (· + 1) 0 (by grind) ?_ ?_
  · cbv
    (simp only [IfP_iff, EqU_iff, Obl_iff, and_true, true_and, inI_iff, decide_eq_true_eq, decide_eq_false_iff_not]; (try simp only [natc, getI_gi, at2_0, at2_1]); (try dsimp only [Ty.den]); try simp only [natc] at *)
  · intro k hk
    have h1 := findR_hit (l := l) (q := q) (k := k)
    have h2 := findR_none (l := l) (q := q)
    have h3 := upTo (p := fun j => !q (getR .int l j)) (k := k) (by simpa using hk.2.2)
    simp only [Bool.not_eq_true'] at h3
    have h4 : 0 ≤ k → k < (l.length : Int) → getR .int l k ∈ l := fun a b => getR_mem a b
    cbv
    ((try simp only [IfP_iff, and_true, true_and, decide_eq_true_eq, decide_eq_false_iff_not]); (try simp only [natc, getI_gi, at2_0, at2_1]); (try dsimp only [Ty.den]); (try simp only [natc] at *); (repeat' (first | apply And.intro | intro _)))
    repeat' (first | ((first | refine call_fnq (hf _ (h4 hk.1 (by assumption))) rfl (by cbv) ?_ | refine call_fn (hf _ (h4 hk.1 (by assumption))) rfl (by cbv) ?_); cbv; ((try simp only [IfP_iff, and_true, true_and, decide_eq_true_eq, decide_eq_false_iff_not]); (try simp only [natc, getI_gi, at2_0, at2_1]); (try dsimp only [Ty.den]); (try simp only [natc] at *); (repeat' (first | apply And.intro | intro _)))))
    all_goals (try clear hf)
    all_goals (try (simp only [IfP_iff, EqU_iff, Obl_iff, and_true, true_and, inI_iff, decide_eq_true_eq, decide_eq_false_iff_not]; (try simp only [natc, getI_gi, at2_0, at2_1]); (try dsimp only [Ty.den]); try simp only [natc] at *))
    all_goals ((repeat' (first | apply And.intro | intro _)) <;> first | omega | (simp only [List.length_append, List.length_cons, List.length_nil]; omega) | grind)
theorem go_containsFR (f : FuncId) (c : Unit → CapR) (q : List Int → Bool) (l : List (List Int)) (hl : l.length ≤ 1048576) (hf : ∀ x ∈ l, Fn1 Try.prog tab f c [.sl .int fun _ => x] [.bool fun _ => q x]) :
    Spec2 Try.prog 83 [.sl (.sl .int) fun _ => l, .fnr f c] [] [.bool fun _ => l.any q] [] := by
  have h1 := findR_any l q
  refine fnS [] [4] Try.func83 rfl (by decide) rfl (by decide) (by kernel_rfl) rfl (by simp [Try.ntmps83]) ?_
  cbv
  ((first | refine call_q (go_indexFR f c q l hl hf) (by cbv) ?_ | refine call_pure (go_indexFR f c q l hl hf) (by cbv) ?_); cbv; ((try simp only [IfP_iff, and_true, true_and, decide_eq_true_eq, decide_eq_false_iff_not]); (try simp only [natc, getI_gi, at2_0, at2_1]); (try dsimp only [Ty.den]); (try simp only [natc] at *); (repeat' (first | apply And.intro | intro _))))
  (simp only [IfP_iff, EqU_iff, Obl_iff, and_true, true_and, inI_iff, decide_eq_true_eq, decide_eq_false_iff_not]; (try simp only [natc, getI_gi, at2_0, at2_1]); (try dsimp only [Ty.den]); try simp only [natc] at *)
  grind
def varOf (x : Int) : Int := if 0 < x then x - 1 else -1 - x
def otherB (n x : Int) : Bool := outI n (varOf x)
def clauseB (n : Int) (r : List Int) : Bool := incB r && !r.any (otherB n)
def badC (n : Int) (r : List Int) : Bool := !clauseB n r
def formOk (n : Int) (L : List (List Int)) : Bool := ((decide (0 ≤ n) && decide (n ≤ 6)) && decide ((L.length : Int) ≤ 64)) && !L.any (badC n)
end Go.Proofs.Ytbpheblbbdiapaa.M

/- Formulas: the laws' helpers; whether one is valid, on both sides. -/
import Derived.Test.YtcgeedklfejhbaaLrQ
import Derived.Test.YtcgeedklfejhbaaCtQ
import Derived.Test.YtcgeedklfejhbaaQc
namespace Go.Proofs.Ytcgeedklfejhbaa.M
open Go.RowKit Abs
set_option linter.unusedSimpArgs false
set_option linter.unusedVariables false
set_option maxRecDepth 100000
set_option maxHeartbeats 4000000
theorem la_szFormula (n : Int) (L : List (List Int)) (k : Int) (h0 : 0 ≤ k) (h1 : k ≤ 1048576) (hl : L.length ≤ 9223372036854775807) (hm : ∀ s ∈ L, s.length ≤ 9223372036854775807) : Spec2 Try.prog 12 [.cells [.int fun _ => n, .sl (.sl .int) fun _ => L], .int fun _ => k] [] [.int fun _ => sizeL L k] [] := by
  have h9 : -1 ≤ sizeL L k := by
    unfold sizeL
    split
    · exact rowsLeft_nn L _ (by omega)
    · omega
  refine fnS [] [4] Try.func12 rfl (by decide) rfl (by decide) (by kernel_rfl) rfl (by simp [Try.ntmps12]) ?_
  cbv
  ((try simp only [IfP_iff, and_true, true_and, decide_eq_true_eq, decide_eq_false_iff_not]); (try simp only [natc, getI_gi, at2_0, at2_1]); (try dsimp only [Ty.den]); (try simp only [natc] at *); (repeat' (first | apply And.intro | intro _)))
  all_goals (repeat' (first | ((first | refine call_q (la_szRows L k h0 h1 hl hm) (by cbv) ?_ | refine call_pure (la_szRows L k h0 h1 hl hm) (by cbv) ?_); cbv; ((try simp only [IfP_iff, and_true, true_and, decide_eq_true_eq, decide_eq_false_iff_not]); (try simp only [natc, getI_gi, at2_0, at2_1]); (try dsimp only [Ty.den]); (try simp only [natc] at *); (repeat' (first | apply And.intro | intro _))))))
  all_goals (try (simp only [IfP_iff, EqU_iff, Obl_iff, and_true, true_and, inI_iff, decide_eq_true_eq, decide_eq_false_iff_not]; (try simp only [natc, getI_gi, at2_0, at2_1]); (try dsimp only [Ty.den]); try simp only [natc] at *))
  all_goals ((repeat' (first | apply And.intro | intro _)) <;> first | omega | (simp only [List.length_append, List.length_cons, List.length_nil]; omega) | grind)
theorem la_toFormula (n : Int) (L : List (List Int)) (hL : L.length ≤ 1048576) (hm : ∀ s ∈ L, s.length ≤ 1048576) : Spec2 Try.prog 14 [.cells [.int fun _ => n, .sl (.sl .int) fun _ => L]] [] [.cells [.int fun _ => n, .ref 0]] [some (.rows 25 3 .int fun _ => L)] := by
  refine fnG [.cst 2 2 27] Try.func14 rfl (by decide) rfl (by kernel_rfl) (.inl rfl) (by kernel_rfl) (Nat.zero_le _) (by simp [Try.ntmps14]) ?_
  cbv
  ((try simp only [IfP_iff, and_true, true_and, decide_eq_true_eq, decide_eq_false_iff_not]); (try simp only [natc, getI_gi, at2_0, at2_1]); (try dsimp only [Ty.den]); (try simp only [natc] at *); (repeat' (first | apply And.intro | intro _)))
  all_goals (repeat' (first | ((first | refine call_q (la_toRows L hL hm) (by cbv) ?_ | refine call_pure (la_toRows L hL hm) (by cbv) ?_); cbv; ((try simp only [IfP_iff, and_true, true_and, decide_eq_true_eq, decide_eq_false_iff_not]); (try simp only [natc, getI_gi, at2_0, at2_1]); (try dsimp only [Ty.den]); (try simp only [natc] at *); (repeat' (first | apply And.intro | intro _))))))
  all_goals (try (simp only [IfP_iff, EqU_iff, Obl_iff, and_true, true_and, inI_iff, decide_eq_true_eq, decide_eq_false_iff_not]; (try simp only [natc, getI_gi, at2_0, at2_1]); (try dsimp only [Ty.den]); try simp only [natc] at *))
  refine EndG.plain [3] ?_
  cbv
  (simp only [IfP_iff, EqU_iff, Obl_iff, and_true, true_and, inI_iff, decide_eq_true_eq, decide_eq_false_iff_not]; (try simp only [natc, getI_gi, at2_0, at2_1]); (try dsimp only [Ty.den]); try simp only [natc] at *)
theorem la_eqFormula (n : Int) (L : List (List Int)) (hL : L.length ≤ 1048576) (hm : ∀ k : Int, 0 ≤ k → k < L.length → (getR .int L k).length ≤ 1048576) : Spec2 Try.prog 17 [.agg (.pr .int (.sl (.sl .int))) fun _ => (n, L), .agg (.pr .int (.sl (.sl .int))) fun _ => (n, L)] [] [.bool fun _ => true] [] := by
  refine fnS [] [4] Try.func17 rfl (by decide) rfl (by decide) (by kernel_rfl) rfl (by simp [Try.ntmps17]) ?_
  cbv
  ((try simp only [IfP_iff, and_true, true_and, decide_eq_true_eq, decide_eq_false_iff_not]); (try simp only [natc, getI_gi, at2_0, at2_1]); (try dsimp only [Ty.den]); (try simp only [natc] at *); (repeat' (first | apply And.intro | intro _)))
  all_goals (repeat' (first | ((first | refine call_q (la_sameRows L L rfl hL hm) (by cbv) ?_ | refine call_pure (la_sameRows L L rfl hL hm) (by cbv) ?_); cbv; ((try simp only [IfP_iff, and_true, true_and, decide_eq_true_eq, decide_eq_false_iff_not]); (try simp only [natc, getI_gi, at2_0, at2_1]); (try dsimp only [Ty.den]); (try simp only [natc] at *); (repeat' (first | apply And.intro | intro _))))))
  all_goals (try (simp only [IfP_iff, EqU_iff, Obl_iff, and_true, true_and, inI_iff, decide_eq_true_eq, decide_eq_false_iff_not]; (try simp only [natc, getI_gi, at2_0, at2_1]); (try dsimp only [Ty.den]); try simp only [natc] at *))
  all_goals ((repeat' (first | apply And.intro | intro _)) <;> first | omega | (simp only [List.length_append, List.length_cons, List.length_nil]; omega) | grind | (simp at *; done))
/-- Rows of which one is as told. -/
def findR (l : List (List Int)) (q : List Int → Bool) : Int := match l.findIdx? q with | some i => i | none => -1
theorem findR_hit {l : List (List Int)} {q : List Int → Bool} {k : Int} (h0 : 0 ≤ k) (h1 : k < (l.length : Int)) (hq : q (getR .int l k) = true) (hn : ∀ j : Int, 0 ≤ j → j < k → q (getR .int l j) = false) : findR l q = k := by
  have e : l.findIdx? q = some k.toNat := by
    rw [List.findIdx?_eq_some_iff_getElem]
    refine ⟨by omega, ?_, fun j hj => ?_⟩
    · have := (List.getElem?_eq_some_iff.1 (getR_get (t := .int) h0 h1)).2
      rw [this]; exact hq
    · have h2 := (List.getElem?_eq_some_iff.1 (getR_get (t := .int) (l := l) (i := (j : Int)) (by omega) (by omega))).2
      have h3 := hn j (by omega) (by omega)
      simp only [Int.toNat_natCast] at h2
      rw [h2, h3]; simp
  unfold findR
  rw [e]
  show ((k.toNat : Nat) : Int) = k
  omega
theorem findR_none {l : List (List Int)} {q : List Int → Bool} (hn : ∀ j : Int, 0 ≤ j → j < (l.length : Int) → q (getR .int l j) = false) : findR l q = -1 := by
  have e : l.findIdx? q = none := by
    rw [List.findIdx?_eq_none_iff]
    intro x hx
    obtain ⟨j, hj, rfl⟩ := List.mem_iff_getElem.1 hx
    have h2 := (List.getElem?_eq_some_iff.1 (getR_get (t := .int) (l := l) (i := (j : Int)) (by omega) (by omega))).2
    have h3 := hn j (by omega) (by omega)
    simp only [Int.toNat_natCast] at h2
    rw [h2, h3]
  unfold findR
  rw [e]
theorem findR_any (l : List (List Int)) (q : List Int → Bool) : decide (0 ≤ findR l q) = l.any q := by
  unfold findR
  cases h : l.findIdx? q with
  | none =>
    rw [List.findIdx?_eq_none_iff] at h
    have : l.any q = false := by rw [List.any_eq_false]; intro x hx; simp [h x hx]
    rw [this]; decide
  | some i =>
    rw [List.findIdx?_eq_some_iff_getElem] at h
    obtain ⟨h1, h2, _⟩ := h
    have : l.any q = true := by rw [List.any_eq_true]; exact ⟨_, List.getElem_mem h1, h2⟩
    rw [this]; simp
theorem go_indexFR (f : FuncId) (c : Unit → CapR) (q : List Int → Bool) (l : List (List Int)) (hl : l.length ≤ 1048576) (hf : ∀ x ∈ l, Fn1 Try.prog tab f c [.sl .int fun _ => x] [.bool fun _ => q x]) :
    Spec2 Try.prog 95 [.sl (.sl .int) fun _ => l, .fnr f c] [] [.int fun _ => findR l q] [] := by
  refine fnS [] [4] Try.func95 rfl (by decide) rfl (by decide) (by kernel_rfl) rfl (by simp [Try.ntmps95]) ?_
  cbv
  refine loopP (by kernel_rfl) (fun k : Int => 0 ≤ k ∧ k ≤ l.length ∧ ∀ j : Int, 0 ≤ j → j < k → q (getR .int l j) = false) (fun k => [(8, .int fun _ => k)]) (fun _ => []) (fun k => (l.length - k).toNat) (· + 1) 0 (by grind) ?_ ?_
  · cbv
    (simp only [IfP_iff, EqU_iff, Obl_iff, and_true, true_and, inI_iff, decide_eq_true_eq, decide_eq_false_iff_not]; (try simp only [natc, getI_gi, at2_0, at2_1]); (try dsimp only [Ty.den]); try simp only [natc] at *)
  · intro k hk
    have h1 := findR_hit (l := l) (q := q) (k := k)
    have h2 := findR_none (l := l) (q := q)
    have h3 := upTo (p := fun j => !q (getR .int l j)) (k := k) (by simpa using hk.2.2)
    simp only [Bool.not_eq_true'] at h3
    have h4 : 0 ≤ k → k < (l.length : Int) → getR .int l k ∈ l := fun a b => getR_mem a b
    cbv
    ((try simp only [IfP_iff, and_true, true_and, decide_eq_true_eq, decide_eq_false_iff_not]); (try simp only [natc, getI_gi, at2_0, at2_1]); (try dsimp only [Ty.den]); (try simp only [natc] at *); (repeat' (first | apply And.intro | intro _)))
    repeat' (first | ((first | refine call_fnq (hf _ (h4 hk.1 (by assumption))) rfl (by cbv) ?_ | refine call_fn (hf _ (h4 hk.1 (by assumption))) rfl (by cbv) ?_); cbv; ((try simp only [IfP_iff, and_true, true_and, decide_eq_true_eq, decide_eq_false_iff_not]); (try simp only [natc, getI_gi, at2_0, at2_1]); (try dsimp only [Ty.den]); (try simp only [natc] at *); (repeat' (first | apply And.intro | intro _)))))
    all_goals (try clear hf)
    all_goals (try (simp only [IfP_iff, EqU_iff, Obl_iff, and_true, true_and, inI_iff, decide_eq_true_eq, decide_eq_false_iff_not]; (try simp only [natc, getI_gi, at2_0, at2_1]); (try dsimp only [Ty.den]); try simp only [natc] at *))
    all_goals ((repeat' (first | apply And.intro | intro _)) <;> first | omega | (simp only [List.length_append, List.length_cons, List.length_nil]; omega) | grind)
theorem go_containsFR (f : FuncId) (c : Unit → CapR) (q : List Int → Bool) (l : List (List Int)) (hl : l.length ≤ 1048576) (hf : ∀ x ∈ l, Fn1 Try.prog tab f c [.sl .int fun _ => x] [.bool fun _ => q x]) :
    Spec2 Try.prog 63 [.sl (.sl .int) fun _ => l, .fnr f c] [] [.bool fun _ => l.any q] [] := by
  have h1 := findR_any l q
  refine fnS [] [4] Try.func63 rfl (by decide) rfl (by decide) (by kernel_rfl) rfl (by simp [Try.ntmps63]) ?_
  cbv
  ((first | refine call_q (go_indexFR f c q l hl hf) (by cbv) ?_ | refine call_pure (go_indexFR f c q l hl hf) (by cbv) ?_); cbv; ((try simp only [IfP_iff, and_true, true_and, decide_eq_true_eq, decide_eq_false_iff_not]); (try simp only [natc, getI_gi, at2_0, at2_1]); (try dsimp only [Ty.den]); (try simp only [natc] at *); (repeat' (first | apply And.intro | intro _))))
  (simp only [IfP_iff, EqU_iff, Obl_iff, and_true, true_and, inI_iff, decide_eq_true_eq, decide_eq_false_iff_not]; (try simp only [natc, getI_gi, at2_0, at2_1]); (try dsimp only [Ty.den]); try simp only [natc] at *)
  grind
def varOf (x : Int) : Int := if 0 < x then x - 1 else -1 - x
theorem im_variableOf (x : Int) (hx : inI x) : Spec2 Try.prog 54 [.int fun _ => x] [] [.int fun _ => varOf x] [] := by
  have h9 : varOf x = if 0 < x then x - 1 else -1 - x := rfl
  have h8 := inI_iff.1 hx
  refine fnS [] [2] Try.func54 rfl (by decide) rfl (by decide) (by kernel_rfl) rfl (by simp [Try.ntmps54]) ?_
  cbv
  ((try simp only [IfP_iff, and_true, true_and, decide_eq_true_eq, decide_eq_false_iff_not]); (try simp only [natc, getI_gi, at2_0, at2_1]); (try dsimp only [Ty.den]); (try simp only [natc] at *); (repeat' (first | apply And.intro | intro _)))
  all_goals (try (simp only [IfP_iff, EqU_iff, Obl_iff, and_true, true_and, inI_iff, decide_eq_true_eq, decide_eq_false_iff_not]; (try simp only [natc, getI_gi, at2_0, at2_1]); (try dsimp only [Ty.den]); try simp only [natc] at *))
  all_goals ((repeat' (first | apply And.intro | intro _)) <;> first | omega | (simp only [List.length_append, List.length_cons, List.length_nil]; omega) | grind)
def otherB (n x : Int) : Bool := outI n (varOf x)
def clauseB (n : Int) (r : List Int) : Bool := incB r && !r.any (otherB n)
theorem im_isClause1 (n x : Int) (hx : inI x) : Spec2 Try.prog 105 [.int fun _ => x, .ibox [.int fun _ => n] 0] [] [.bool fun _ => otherB n x] [] := by
  have h9 : otherB n x = !(decide (0 ≤ varOf x) && decide (varOf x < n)) := rfl
  refine fnS [] [3] Try.func105 rfl (by decide) rfl (by decide) (by kernel_rfl) rfl (by simp [Try.ntmps105]) ?_
  cbv
  repeat' (first | ((first | refine call_q (im_variableOf x hx) (by cbv) ?_ | refine call_pure (im_variableOf x hx) (by cbv) ?_); cbv; ((try simp only [IfP_iff, and_true, true_and, decide_eq_true_eq, decide_eq_false_iff_not]); (try simp only [natc, getI_gi, at2_0, at2_1]); (try dsimp only [Ty.den]); (try simp only [natc] at *); (repeat' (first | apply And.intro | intro _)))) | ((first | refine call_q (im_isIndex _ _) (by cbv) ?_ | refine call_pure (im_isIndex _ _) (by cbv) ?_); cbv; ((try simp only [IfP_iff, and_true, true_and, decide_eq_true_eq, decide_eq_false_iff_not]); (try simp only [natc, getI_gi, at2_0, at2_1]); (try dsimp only [Ty.den]); (try simp only [natc] at *); (repeat' (first | apply And.intro | intro _)))))
  all_goals (try (simp only [IfP_iff, EqU_iff, Obl_iff, and_true, true_and, inI_iff, decide_eq_true_eq, decide_eq_false_iff_not]; (try simp only [natc, getI_gi, at2_0, at2_1]); (try dsimp only [Ty.den]); try simp only [natc] at *))
  all_goals ((repeat' (first | apply And.intro | intro _)) <;> first | omega | (simp only [List.length_append, List.length_cons, List.length_nil]; omega) | grind)
theorem im_isClause (n : Int) (r : List Int) (hr : r.length ≤ 1048576) (hx : ∀ x ∈ r, inI x) : Spec2 Try.prog 86 [.sl .int fun _ => r, .int fun _ => n] [] [.bool fun _ => clauseB n r] [] := by
  have h9 : clauseB n r = _ := rfl
  conv at h9 => rhs; unfold clauseB
  refine fnS [] [4] Try.func86 rfl (by decide) rfl (by decide) (by kernel_rfl) rfl (by simp [Try.ntmps86]) ?_
  cbv
  repeat' (first | ((first | refine call_q (im_isAscending r hr) (by cbv) ?_ | refine call_pure (im_isAscending r hr) (by cbv) ?_); cbv; ((try simp only [IfP_iff, and_true, true_and, decide_eq_true_eq, decide_eq_false_iff_not]); (try simp only [natc, getI_gi, at2_0, at2_1]); (try dsimp only [Ty.den]); (try simp only [natc] at *); (repeat' (first | apply And.intro | intro _)))))
  all_goals (try (simp only [IfP_iff, EqU_iff, Obl_iff, and_true, true_and, inI_iff, decide_eq_true_eq, decide_eq_false_iff_not]; (try simp only [natc, getI_gi, at2_0, at2_1]); (try dsimp only [Ty.den]); try simp only [natc] at *))
  ((try simp only [IfP_iff, and_true, true_and, decide_eq_true_eq, decide_eq_false_iff_not]); (try simp only [natc, getI_gi, at2_0, at2_1]); (try dsimp only [Ty.den]); (try simp only [natc] at *); (repeat' (first | apply And.intro | intro _)))
  all_goals (repeat' (first | ((first | refine call_q (go_containsF 105 (fun _ => ofCaps [.ibox [.int fun _ => n] 0]) (otherB n) r hr fun x hxr => ⟨_, rfl, fun _ => rfl, im_isClause1 n x (hx x hxr)⟩) (by cbv) ?_ | refine call_pure (go_containsF 105 (fun _ => ofCaps [.ibox [.int fun _ => n] 0]) (otherB n) r hr fun x hxr => ⟨_, rfl, fun _ => rfl, im_isClause1 n x (hx x hxr)⟩) (by cbv) ?_); cbv; ((try simp only [IfP_iff, and_true, true_and, decide_eq_true_eq, decide_eq_false_iff_not]); (try simp only [natc, getI_gi, at2_0, at2_1]); (try dsimp only [Ty.den]); (try simp only [natc] at *); (repeat' (first | apply And.intro | intro _))))))
  all_goals (try clear hx)
  all_goals (try (simp only [IfP_iff, EqU_iff, Obl_iff, and_true, true_and, inI_iff, decide_eq_true_eq, decide_eq_false_iff_not]; (try simp only [natc, getI_gi, at2_0, at2_1]); (try dsimp only [Ty.den]); try simp only [natc] at *))
  all_goals ((repeat' (first | apply And.intro | intro _)) <;> first | omega | (simp only [List.length_append, List.length_cons, List.length_nil]; omega) | grind)
theorem im_isVars (n : Int) : Spec2 Try.prog 61 [.int fun _ => n] [] [.bool fun _ => decide (0 ≤ n) && decide (n ≤ 6)] [] := by
  refine fnS [] [2] Try.func61 rfl (by decide) rfl (by decide) (by kernel_rfl) rfl (by simp [Try.ntmps61]) ?_
  cbv
  ((try simp only [IfP_iff, and_true, true_and, decide_eq_true_eq, decide_eq_false_iff_not]); (try simp only [natc, getI_gi, at2_0, at2_1]); (try dsimp only [Ty.den]); (try simp only [natc] at *); (repeat' (first | apply And.intro | intro _)))
  all_goals (try (simp only [IfP_iff, EqU_iff, Obl_iff, and_true, true_and, inI_iff, decide_eq_true_eq, decide_eq_false_iff_not]; (try simp only [natc, getI_gi, at2_0, at2_1]); (try dsimp only [Ty.den]); try simp only [natc] at *))
  all_goals ((repeat' (first | apply And.intro | intro _)) <;> first | omega | (simp only [List.length_append, List.length_cons, List.length_nil]; omega) | grind)
def badC (n : Int) (r : List Int) : Bool := !clauseB n r
def formOk (n : Int) (L : List (List Int)) : Bool := ((decide (0 ≤ n) && decide (n ≤ 6)) && decide ((L.length : Int) ≤ 64)) && !L.any (badC n)
theorem im_isFormula1 (n : Int) (L : List (List Int)) (r : List Int) (hr : r.length ≤ 1048576) (hx : ∀ x ∈ r, inI x) : Spec2 Try.prog 85 [.sl .int fun _ => r, .ibox [.int fun _ => n, .sl (.sl .int) fun _ => L] 0] [] [.bool fun _ => badC n r] [] := by
  have h9 : badC n r = !clauseB n r := rfl
  refine fnS [] [3] Try.func85 rfl (by decide) rfl (by decide) (by kernel_rfl) rfl (by simp [Try.ntmps85]) ?_
  cbv
  repeat' (first | ((first | refine call_q (im_isClause n r hr hx) (by cbv) ?_ | refine call_pure (im_isClause n r hr hx) (by cbv) ?_); cbv; ((try simp only [IfP_iff, and_true, true_and, decide_eq_true_eq, decide_eq_false_iff_not]); (try simp only [natc, getI_gi, at2_0, at2_1]); (try dsimp only [Ty.den]); (try simp only [natc] at *); (repeat' (first | apply And.intro | intro _)))))
  all_goals (try clear hx)
  all_goals (try (simp only [IfP_iff, EqU_iff, Obl_iff, and_true, true_and, inI_iff, decide_eq_true_eq, decide_eq_false_iff_not]; (try simp only [natc, getI_gi, at2_0, at2_1]); (try dsimp only [Ty.den]); try simp only [natc] at *))
  all_goals ((repeat' (first | apply And.intro | intro _)) <;> first | omega | (simp only [List.length_append, List.length_cons, List.length_nil]; omega) | grind)
theorem im_isFormula (n : Int) (L : List (List Int)) (hL : L.length ≤ 1048576) (hm : ∀ r ∈ L, r.length ≤ 1048576) (hx : ∀ r ∈ L, ∀ x ∈ r, inI x) : Spec2 Try.prog 50 [.cells [.int fun _ => n, .sl (.sl .int) fun _ => L]] [] [.bool fun _ => formOk n L] [] := by
  have h9 : formOk n L = _ := rfl
  conv at h9 => rhs; unfold formOk
  refine fnS [] [2] Try.func50 rfl (by decide) rfl (by decide) (by kernel_rfl) rfl (by simp [Try.ntmps50]) ?_
  cbv
  repeat' (first | ((first | refine call_q (im_isVars n) (by cbv) ?_ | refine call_pure (im_isVars n) (by cbv) ?_); cbv; ((try simp only [IfP_iff, and_true, true_and, decide_eq_true_eq, decide_eq_false_iff_not]); (try simp only [natc, getI_gi, at2_0, at2_1]); (try dsimp only [Ty.den]); (try simp only [natc] at *); (repeat' (first | apply And.intro | intro _)))))
  all_goals (try (simp only [IfP_iff, EqU_iff, Obl_iff, and_true, true_and, inI_iff, decide_eq_true_eq, decide_eq_false_iff_not]; (try simp only [natc, getI_gi, at2_0, at2_1]); (try dsimp only [Ty.den]); try simp only [natc] at *))
  ((try simp only [IfP_iff, and_true, true_and, decide_eq_true_eq, decide_eq_false_iff_not]); (try simp only [natc, getI_gi, at2_0, at2_1]); (try dsimp only [Ty.den]); (try simp only [natc] at *); (repeat' (first | apply And.intro | intro _)))
  all_goals (repeat' (first | ((first | refine call_q (go_containsFR 85 (fun _ => ofCaps [.ibox [.int fun _ => n, .sl (.sl .int) fun _ => L] 0]) (badC n) L hL fun r hr => ⟨_, rfl, fun _ => rfl, im_isFormula1 n L r (hm r hr) (hx r hr)⟩) (by cbv) ?_ | refine call_pure (go_containsFR 85 (fun _ => ofCaps [.ibox [.int fun _ => n, .sl (.sl .int) fun _ => L] 0]) (badC n) L hL fun r hr => ⟨_, rfl, fun _ => rfl, im_isFormula1 n L r (hm r hr) (hx r hr)⟩) (by cbv) ?_); cbv; ((try simp only [IfP_iff, and_true, true_and, decide_eq_true_eq, decide_eq_false_iff_not]); (try simp only [natc, getI_gi, at2_0, at2_1]); (try dsimp only [Ty.den]); (try simp only [natc] at *); (repeat' (first | apply And.intro | intro _))))))
  all_goals (try clear hx)
  all_goals (try clear hm)
  all_goals (try (simp only [IfP_iff, EqU_iff, Obl_iff, and_true, true_and, inI_iff, decide_eq_true_eq, decide_eq_false_iff_not]; (try simp only [natc, getI_gi, at2_0, at2_1]); (try dsimp only [Ty.den]); try simp only [natc] at *))
  all_goals ((repeat' (first | apply And.intro | intro _)) <;> first | omega | (simp only [List.length_append, List.length_cons, List.length_nil]; omega) | grind)
end Go.Proofs.Ytcgeedklfejhbaa.M

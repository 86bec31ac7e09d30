/- Spaces: whether they are valid, in the program. -/
import Derived.Test.YtemdajfcfmefnaaSpQ
namespace Go.Proofs.Ytemdajfcfmefnaa.M
open Go.RowKit Abs
set_option linter.unusedSimpArgs false
set_option linter.unusedVariables false
set_option maxRecDepth 100000
set_option maxHeartbeats 4000000
def findI (l : List Int) (q : Int → Bool) : Int := match l.findIdx? q with | some i => i | none => -1
theorem findI_hit {l : List Int} {q : Int → Bool} {k : Int} (h0 : 0 ≤ k) (h1 : k < (l.length : Int)) (hq : q (getI .int l k) = true) (hn : ∀ j : Int, 0 ≤ j → j < k → q (getI .int l j) = false) : findI l q = k := by
  have e : l.findIdx? q = some k.toNat := by
    rw [List.findIdx?_eq_some_iff_getElem]
    have hg := fun (j : Nat) (hj : j < l.length) => (List.getElem?_eq_some_iff.1 (getI_get (t := .int) (l := l) (i := (j : Int)) (by omega) (by omega)))
    refine ⟨by omega, ?_, fun j hj => ?_⟩
    · have := (List.getElem?_eq_some_iff.1 (getI_get (t := .int) h0 h1)).2
      rw [this]; exact hq
    · have h2 := (List.getElem?_eq_some_iff.1 (getI_get (t := .int) (l := l) (i := (j : Int)) (by omega) (by omega))).2
      have h3 := hn j (by omega) (by omega)
      simp only [Int.toNat_natCast] at h2
      rw [h2, h3]; simp
  unfold findI
  rw [e]
  show ((k.toNat : Nat) : Int) = k
  omega
theorem findI_none {l : List Int} {q : Int → Bool} (hn : ∀ j : Int, 0 ≤ j → j < (l.length : Int) → q (getI .int l j) = false) : findI l q = -1 := by
  have e : l.findIdx? q = none := by
    rw [List.findIdx?_eq_none_iff]
    intro x hx
    obtain ⟨j, hj, rfl⟩ := List.mem_iff_getElem.1 hx
    have h2 := (List.getElem?_eq_some_iff.1 (getI_get (t := .int) (l := l) (i := (j : Int)) (by omega) (by omega))).2
    have h3 := hn j (by omega) (by omega)
    simp only [Int.toNat_natCast] at h2
    rw [h2, h3]
  unfold findI
  rw [e]
theorem findI_any (l : List Int) (q : Int → Bool) : decide (0 ≤ findI l q) = l.any q := by
  unfold findI
  cases h : l.findIdx? q with
  | none =>
    rw [List.findIdx?_eq_none_iff] at h
    have : l.any q = false := by rw [List.any_eq_false]; intro x hx; simp [h x hx]
    rw [this]; decide
  | some i =>
    rw [List.findIdx?_eq_some_iff_getElem] at h
    obtain ⟨h1, h2, _⟩ := h
    have : l.any q = true := by rw [List.any_eq_true]; exact ⟨_, List.getElem_mem h1, h2⟩
    rw [this]; simp
theorem go_indexF (f : FuncId) (c : Unit → CapR) (q : Int → Bool) (l : List Int) (hl : l.length ≤ 1048576) (hf : ∀ x ∈ l, Fn1 Try.prog tab f c [.int fun _ => x] [.bool fun _ => q x]) :
    Spec2 Try.prog 67 [.sl .int fun _ => l, .fnr f c] [] [.int fun _ => findI l q] [] := by
  refine fnS [] [4] Try.func67 rfl (by decide) rfl (by decide) (by kernel_rfl) rfl (by simp [Try.ntmps67]) ?_
  cbv
  refine loopP (by kernel_rfl) (fun k : Int => 0 ≤ k ∧ k ≤ l.length ∧ ∀ j : Int, 0 ≤ j → j < k → q (getI .int l j) = false) (fun k => [(8, .int fun _ => k)]) (fun _ => []) (fun k => (l.length - k).toNat) (· + 1) 0 (by grind) ?_ ?_
  · cbv
    (simp only [IfP_iff, EqU_iff, Obl_iff, and_true, true_and, inI_iff, decide_eq_true_eq, decide_eq_false_iff_not]; (try simp only [natc, at2_0, at2_1]); (try dsimp only [Ty.den]); try simp only [natc] at *)
  · intro k hk
    have h1 := findI_hit (l := l) (q := q) (k := k)
    have h2 := findI_none (l := l) (q := q)
    have h3 := upTo (p := fun j => !q (getI .int l j)) (k := k) (by simpa using hk.2.2)
    simp only [Bool.not_eq_true'] at h3
    have h4 : 0 ≤ k → k < (l.length : Int) → getI .int l k ∈ l := fun a b => List.mem_of_getElem? (getI_get (t := .int) a b)
    cbv
    ((try simp only [IfP_iff, and_true, true_and, decide_eq_true_eq, decide_eq_false_iff_not]); (try simp only [natc, at2_0, at2_1]); (try dsimp only [Ty.den]); (try simp only [natc] at *); (repeat' (first | apply And.intro | intro _)))
    repeat' (first | ((first | refine call_fnq (hf _ (h4 hk.1 (by assumption))) rfl (by cbv) ?_ | refine call_fn (hf _ (h4 hk.1 (by assumption))) rfl (by cbv) ?_); cbv; ((try simp only [IfP_iff, and_true, true_and, decide_eq_true_eq, decide_eq_false_iff_not]); (try simp only [natc, at2_0, at2_1]); (try dsimp only [Ty.den]); (try simp only [natc] at *); (repeat' (first | apply And.intro | intro _)))))
    all_goals (try (simp only [IfP_iff, EqU_iff, Obl_iff, and_true, true_and, inI_iff, decide_eq_true_eq, decide_eq_false_iff_not]; (try simp only [natc, at2_0, at2_1]); (try dsimp only [Ty.den]); try simp only [natc] at *))
    all_goals ((repeat' (first | apply And.intro | intro _)) <;> first | omega | (simp only [List.length_append, List.length_cons, List.length_nil]; omega) | grind)
theorem go_containsF (f : FuncId) (c : Unit → CapR) (q : Int → Bool) (l : List Int) (hl : l.length ≤ 1048576) (hf : ∀ x ∈ l, Fn1 Try.prog tab f c [.int fun _ => x] [.bool fun _ => q x]) :
    Spec2 Try.prog 118 [.sl .int fun _ => l, .fnr f c] [] [.bool fun _ => l.any q] [] := by
  have h1 := findI_any l q
  refine fnS [] [4] Try.func118 rfl (by decide) rfl (by decide) (by kernel_rfl) rfl (by simp [Try.ntmps118]) ?_
  cbv
  ((first | refine call_q (go_indexF f c q l hl hf) (by cbv) ?_ | refine call_pure (go_indexF f c q l hl hf) (by cbv) ?_); cbv; ((try simp only [IfP_iff, and_true, true_and, decide_eq_true_eq, decide_eq_false_iff_not]); (try simp only [natc, at2_0, at2_1]); (try dsimp only [Ty.den]); (try simp only [natc] at *); (repeat' (first | apply And.intro | intro _))))
  (simp only [IfP_iff, EqU_iff, Obl_iff, and_true, true_and, inI_iff, decide_eq_true_eq, decide_eq_false_iff_not]; (try simp only [natc, at2_0, at2_1]); (try dsimp only [Ty.den]); try simp only [natc] at *)
  grind
def outB (m x : Int) : Bool := decide (x < 0 - m) || decide (m < x)
theorem im_within1 (x m : Int) (h0 : 0 ≤ m) (h1 : m ≤ 1000000) : Spec2 Try.prog 119 [.int fun _ => x, .ibox [.int fun _ => m] 0] [] [.bool fun _ => outB m x] [] := by
  refine fnS [] [3] Try.func119 rfl (by decide) rfl (by decide) (by kernel_rfl) rfl (by simp [Try.ntmps119]) ?_
  cbv
  unfold outB
  ((try simp only [IfP_iff, and_true, true_and, decide_eq_true_eq, decide_eq_false_iff_not]); (try simp only [natc, at2_0, at2_1]); (try dsimp only [Ty.den]); (try simp only [natc] at *); (repeat' (first | apply And.intro | intro _)))
  all_goals (try (simp only [IfP_iff, EqU_iff, Obl_iff, and_true, true_and, inI_iff, decide_eq_true_eq, decide_eq_false_iff_not]; (try simp only [natc, at2_0, at2_1]); (try dsimp only [Ty.den]); try simp only [natc] at *))
  all_goals ((repeat' (first | apply And.intro | intro _)) <;> first | omega | (simp only [List.length_append, List.length_cons, List.length_nil]; omega) | grind)
theorem im_areWithin (l : List Int) (m : Int) (h0 : 0 ≤ m) (h1 : m ≤ 1000000) (hl : l.length ≤ 1048576) : Spec2 Try.prog 105 [.sl .int fun _ => l, .int fun _ => m] [] [.bool fun _ => !l.any (outB m)] [] := by
  refine fnS [] [4] Try.func105 rfl (by decide) rfl (by decide) (by kernel_rfl) rfl (by simp [Try.ntmps105]) ?_
  cbv
  ((first | refine call_q (go_containsF 119 (fun _ => ofCaps [.ibox [.int fun _ => m] 0]) (outB m) l hl fun x _ => ⟨_, rfl, fun _ => rfl, im_within1 x m h0 h1⟩) (by cbv) ?_ | refine call_pure (go_containsF 119 (fun _ => ofCaps [.ibox [.int fun _ => m] 0]) (outB m) l hl fun x _ => ⟨_, rfl, fun _ => rfl, im_within1 x m h0 h1⟩) (by cbv) ?_); cbv; ((try simp only [IfP_iff, and_true, true_and, decide_eq_true_eq, decide_eq_false_iff_not]); (try simp only [natc, at2_0, at2_1]); (try dsimp only [Ty.den]); (try simp only [natc] at *); (repeat' (first | apply And.intro | intro _))))
  (simp only [IfP_iff, EqU_iff, Obl_iff, and_true, true_and, inI_iff, decide_eq_true_eq, decide_eq_false_iff_not]; (try simp only [natc, at2_0, at2_1]); (try dsimp only [Ty.den]); try simp only [natc] at *)
theorem any_allI {l : List Int} : (!l.any (outB 99)) = allI l.length fun k => inB (getI .int l k) := by
  have e : ∀ x, outB 99 x = !inB x := fun x => by simp only [outB, inB]; grind
  cases h : l.any (outB 99) with
  | true =>
    rw [List.any_eq_true] at h
    obtain ⟨x, hx, hq⟩ := h
    obtain ⟨j, hj, rfl⟩ := List.mem_iff_getElem.1 hx
    have h2 := (List.getElem?_eq_some_iff.1 (getI_get (t := .int) (l := l) (i := (j : Int)) (by omega) (by omega))).2
    simp only [Int.toNat_natCast] at h2
    rw [allI_bad (k := (j : Int)) (by omega) (by omega) (by rw [← h2]; rw [e] at hq; simpa using hq)]
    rfl
  | false =>
    rw [List.any_eq_false] at h
    rw [allI_good fun k h0 h1 => by
      have := h _ (List.mem_of_getElem? (getI_get (t := .int) h0 h1))
      rw [e] at this
      simpa using this]
    rfl
theorem im_isState (s : List Int) (hl : s.length ≤ 1048576) : Spec2 Try.prog 98 [.sl .int fun _ => s] [] [.bool fun _ => stateOk s] [] := by
  have h5 : stateOk s = _ := rfl
  conv at h5 => rhs; unfold stateOk; rw [← any_allI]
  refine fnS [] [2] Try.func98 rfl (by decide) rfl (by decide) (by kernel_rfl) rfl (by simp [Try.ntmps98]) ?_
  cbv
  ((try simp only [IfP_iff, and_true, true_and, decide_eq_true_eq, decide_eq_false_iff_not]); (try simp only [natc, at2_0, at2_1]); (try dsimp only [Ty.den]); (try simp only [natc] at *); (repeat' (first | apply And.intro | intro _)))
  repeat' (first | ((first | refine call_q (im_areWithin s 99 (by omega) (by omega) hl) (by cbv) ?_ | refine call_pure (im_areWithin s 99 (by omega) (by omega) hl) (by cbv) ?_); cbv; ((try simp only [IfP_iff, and_true, true_and, decide_eq_true_eq, decide_eq_false_iff_not]); (try simp only [natc, at2_0, at2_1]); (try dsimp only [Ty.den]); (try simp only [natc] at *); (repeat' (first | apply And.intro | intro _)))))
  all_goals (try (simp only [IfP_iff, EqU_iff, Obl_iff, and_true, true_and, inI_iff, decide_eq_true_eq, decide_eq_false_iff_not]; (try simp only [natc, at2_0, at2_1]); (try dsimp only [Ty.den]); try simp only [natc] at *))
  all_goals ((repeat' (first | apply And.intro | intro _)) <;> first | omega | (simp only [List.length_append, List.length_cons, List.length_nil]; omega) | grind)
theorem im_areStates (L : List (List Int)) (hL : L.length ≤ 1048576) (hm : ∀ s ∈ L, s.length ≤ 1048576) : Spec2 Try.prog 90 [.sl (.sl .int) fun _ => L] [] [.bool fun _ => decide ((L.length : Int) ≤ 300) && statesOk L] [] := by
  have hg : ∀ k : Int, (getI (.sl .int) L k).length ≤ 1048576 := fun k => by
    unfold getI
    rw [List.getD_eq_getElem?_getD]
    cases h : L[k.toNat]? with
    | none => show 0 ≤ _; omega
    | some s => exact hm s (List.mem_of_getElem? h)
  have h5 : statesOk L = _ := rfl
  conv at h5 => rhs; unfold statesOk
  refine fnS [] [2] Try.func90 rfl (by decide) rfl (by decide) (by kernel_rfl) rfl (by simp [Try.ntmps90]) ?_
  cbv
  ((try simp only [IfP_iff, and_true, true_and, decide_eq_true_eq, decide_eq_false_iff_not]); (try simp only [natc, at2_0, at2_1]); (try dsimp only [Ty.den]); (try simp only [natc] at *); (repeat' (first | apply And.intro | intro _)))
  all_goals (try (simp only [IfP_iff, EqU_iff, Obl_iff, and_true, true_and, inI_iff, decide_eq_true_eq, decide_eq_false_iff_not]; (try simp only [natc, at2_0, at2_1]); (try dsimp only [Ty.den]); try simp only [natc] at *))
  · grind
  refine loopP (by kernel_rfl) (fun k : Int => 0 ≤ k ∧ k ≤ L.length ∧ ∀ j : Int, 0 ≤ j → j < k → goodS L j = true) (fun k => [(10, .int fun _ => k)]) (fun _ => []) (fun k => (L.length - k).toNat) (· + 1) 0 (by grind) ?_ ?_
  · cbv
    (simp only [IfP_iff, EqU_iff, Obl_iff, and_true, true_and, inI_iff, decide_eq_true_eq, decide_eq_false_iff_not]; (try simp only [natc, at2_0, at2_1]); (try dsimp only [Ty.den]); try simp only [natc] at *)
  · intro k hk
    have h1 := allI_bad (n := L.length) (p := goodS L) (k := k)
    have h2 := allI_good (n := L.length) (p := goodS L)
    have h3 := upTo (p := goodS L) hk.2.2
    have h4 : goodS L k = _ := rfl
    conv at h4 => rhs; unfold goodS
    cbv
    ((try simp only [IfP_iff, and_true, true_and, decide_eq_true_eq, decide_eq_false_iff_not]); (try simp only [natc, at2_0, at2_1]); (try dsimp only [Ty.den]); (try simp only [natc] at *); (repeat' (first | apply And.intro | intro _)))
    repeat' (first | ((first | refine call_q (im_isState _ (hg _)) (by cbv) ?_ | refine call_pure (im_isState _ (hg _)) (by cbv) ?_); cbv; ((try simp only [IfP_iff, and_true, true_and, decide_eq_true_eq, decide_eq_false_iff_not]); (try simp only [natc, at2_0, at2_1]); (try dsimp only [Ty.den]); (try simp only [natc] at *); (repeat' (first | apply And.intro | intro _)))) | ((first | refine call_q (go_compare _ _ (hg _) (hg _)) (by cbv) ?_ | refine call_pure (go_compare _ _ (hg _) (hg _)) (by cbv) ?_); cbv; ((try simp only [IfP_iff, and_true, true_and, decide_eq_true_eq, decide_eq_false_iff_not]); (try simp only [natc, at2_0, at2_1]); (try dsimp only [Ty.den]); (try simp only [natc] at *); (repeat' (first | apply And.intro | intro _)))))
    all_goals (try (simp only [IfP_iff, EqU_iff, Obl_iff, and_true, true_and, inI_iff, decide_eq_true_eq, decide_eq_false_iff_not]; (try simp only [natc, at2_0, at2_1]); (try dsimp only [Ty.den]); try simp only [natc] at *))
    all_goals ((repeat' (first | apply And.intro | intro _)) <;> first | omega | (simp only [List.length_append, List.length_cons, List.length_nil]; omega) | grind)
theorem im_space (L : List (List Int)) (l : List (Int × Int)) (hL : L.length ≤ 1048576) (hl : l.length ≤ 1048576) (hm : ∀ s ∈ L, s.length ≤ 1048576) : Spec2 Try.prog 74 [.agg (.pr (.sl (.sl .int)) (.sl (.pr .int .int))) fun _ => (L, l)] [] [.bool fun _ => spaceOk L l] [] := by
  have h5 : spaceOk L l = _ := rfl
  conv at h5 => rhs; unfold spaceOk
  refine fnS [] [2] Try.func74 rfl (by decide) rfl (by decide) (by kernel_rfl) rfl (by simp [Try.ntmps74]) ?_
  cbv
  ((try simp only [IfP_iff, and_true, true_and, decide_eq_true_eq, decide_eq_false_iff_not]); (try simp only [natc, at2_0, at2_1]); (try dsimp only [Ty.den]); (try simp only [natc] at *); (repeat' (first | apply And.intro | intro _)))
  repeat' (first | ((first | refine call_q (im_areStates L hL hm) (by cbv) ?_ | refine call_pure (im_areStates L hL hm) (by cbv) ?_); cbv; ((try simp only [IfP_iff, and_true, true_and, decide_eq_true_eq, decide_eq_false_iff_not]); (try simp only [natc, at2_0, at2_1]); (try dsimp only [Ty.den]); (try simp only [natc] at *); (repeat' (first | apply And.intro | intro _)))) | ((first | refine call_q (im_arePairs l L.length hl) (by cbv) ?_ | refine call_pure (im_arePairs l L.length hl) (by cbv) ?_); cbv; ((try simp only [IfP_iff, and_true, true_and, decide_eq_true_eq, decide_eq_false_iff_not]); (try simp only [natc, at2_0, at2_1]); (try dsimp only [Ty.den]); (try simp only [natc] at *); (repeat' (first | apply And.intro | intro _)))))
  all_goals (try (simp only [IfP_iff, EqU_iff, Obl_iff, and_true, true_and, inI_iff, decide_eq_true_eq, decide_eq_false_iff_not]; (try simp only [natc, at2_0, at2_1]); (try dsimp only [Ty.den]); try simp only [natc] at *))
  all_goals ((repeat' (first | apply And.intro | intro _)) <;> first | omega | (simp only [List.length_append, List.length_cons, List.length_nil]; omega) | grind)
def inAll (n : Int) (ps : List Int) : Bool := allI ps.length fun k => decide (0 ≤ getI .int ps k) && decide (getI .int ps k < n)
theorem im_hasPlaces (L : List (List Int)) (l : List (Int × Int)) (ps : List Int) (hp : ps.length ≤ 1048576) (hL : L.length ≤ 1048576) (hl : l.length ≤ 1048576) (hm : ∀ s ∈ L, s.length ≤ 1048576) :
    Spec2 Try.prog 61 [.agg (.pr (.sl (.sl .int)) (.sl (.pr .int .int))) fun _ => (L, l), .sl .int fun _ => ps] [] [.bool fun _ => spaceOk L l && inAll L.length ps] [] := by
  have h5 : inAll L.length ps = _ := rfl
  conv at h5 => rhs; unfold inAll
  refine fnS [] [4] Try.func61 rfl (by decide) rfl (by decide) (by kernel_rfl) rfl (by simp [Try.ntmps61]) ?_
  cbv
  repeat' (first | ((first | refine call_q (im_space L l hL hl hm) (by cbv) ?_ | refine call_pure (im_space L l hL hl hm) (by cbv) ?_); cbv; ((try simp only [IfP_iff, and_true, true_and, decide_eq_true_eq, decide_eq_false_iff_not]); (try simp only [natc, at2_0, at2_1]); (try dsimp only [Ty.den]); (try simp only [natc] at *); (repeat' (first | apply And.intro | intro _)))))
  all_goals (try (simp only [IfP_iff, EqU_iff, Obl_iff, and_true, true_and, inI_iff, decide_eq_true_eq, decide_eq_false_iff_not]; (try simp only [natc, at2_0, at2_1]); (try dsimp only [Ty.den]); try simp only [natc] at *))
  · grind
  refine loopP (by kernel_rfl) (fun k : Int => 0 ≤ k ∧ k ≤ ps.length ∧ ∀ j : Int, 0 ≤ j → j < k → (decide (0 ≤ getI .int ps j) && decide (getI .int ps j < L.length)) = true) (fun k => [(12, .int fun _ => k)]) (fun _ => []) (fun k => (ps.length - k).toNat) (· + 1) 0 (by grind) ?_ ?_
  · cbv
    (simp only [IfP_iff, EqU_iff, Obl_iff, and_true, true_and, inI_iff, decide_eq_true_eq, decide_eq_false_iff_not]; (try simp only [natc, at2_0, at2_1]); (try dsimp only [Ty.den]); try simp only [natc] at *)
  · intro k hk
    have h1 := allI_bad (n := ps.length) (p := fun j => decide (0 ≤ getI .int ps j) && decide (getI .int ps j < L.length)) (k := k)
    have h2 := allI_good (n := ps.length) (p := fun j => decide (0 ≤ getI .int ps j) && decide (getI .int ps j < L.length))
    have h3 := upTo (p := fun j => decide (0 ≤ getI .int ps j) && decide (getI .int ps j < L.length)) hk.2.2
    cbv
    ((try simp only [IfP_iff, and_true, true_and, decide_eq_true_eq, decide_eq_false_iff_not]); (try simp only [natc, at2_0, at2_1]); (try dsimp only [Ty.den]); (try simp only [natc] at *); (repeat' (first | apply And.intro | intro _)))
    repeat' (first | ((first | refine call_q (im_isIndex _ _) (by cbv) ?_ | refine call_pure (im_isIndex _ _) (by cbv) ?_); cbv; ((try simp only [IfP_iff, and_true, true_and, decide_eq_true_eq, decide_eq_false_iff_not]); (try simp only [natc, at2_0, at2_1]); (try dsimp only [Ty.den]); (try simp only [natc] at *); (repeat' (first | apply And.intro | intro _)))))
    all_goals (try (simp only [IfP_iff, EqU_iff, Obl_iff, and_true, true_and, inI_iff, decide_eq_true_eq, decide_eq_false_iff_not]; (try simp only [natc, at2_0, at2_1]); (try dsimp only [Ty.den]); try simp only [natc] at *))
    all_goals ((repeat' (first | apply And.intro | intro _)) <;> first | omega | (simp only [List.length_append, List.length_cons, List.length_nil]; omega) | grind)
end Go.Proofs.Ytemdajfcfmefnaa.M

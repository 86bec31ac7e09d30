/- slices.Contains, ContainsFunc over pairs; ascending lists of nodes, on both sides. -/
import Derived.Test.YthogfineaeklpaaSiQ
namespace Go.Proofs.Ythogfineaeklpaa.M
open Go.RowKit Abs
set_option linter.unusedSimpArgs false
set_option linter.unusedVariables false
set_option maxRecDepth 100000
set_option maxHeartbeats 4000000
theorem go_index (l : List Int) (v : Int) (hl : l.length ≤ 1048576) :
    Spec2 Try.prog 119 [.sl .int fun _ => l, .int fun _ => v] [] [.int fun _ => findI l fun x => decide (v = x)] [] := by
  refine fnS [] [4] Try.func119 rfl (by decide) rfl (by decide) (by kernel_rfl) rfl (by simp [Try.ntmps119]) ?_
  cbv
  refine loopP (by kernel_rfl) (fun k : Int => 0 ≤ k ∧ k ≤ l.length ∧ ∀ j : Int, 0 ≤ j → j < k → decide (v = getI .int l j) = false) (fun k => [(8, .int fun _ => k)]) (fun _ => []) (fun k => (l.length - k).toNat) (· + 1) 0 (by grind) ?_ ?_
  · cbv
    (simp only [IfP_iff, EqU_iff, Obl_iff, and_true, true_and, inI_iff, decide_eq_true_eq, decide_eq_false_iff_not]; (try simp only [natc, at2_0, at2_1]); (try dsimp only [Ty.den]); try simp only [natc] at *)
  · intro k hk
    have h1 := findI_hit (l := l) (q := fun x => decide (v = x)) (k := k)
    have h2 := findI_none (l := l) (q := fun x => decide (v = x))
    have h3 := upTo (p := fun j => !decide (v = getI .int l j)) (k := k) (by simpa using hk.2.2)
    simp only [Bool.not_eq_true'] at h3
    cbv
    ((try simp only [IfP_iff, and_true, true_and, decide_eq_true_eq, decide_eq_false_iff_not]); (try simp only [natc, at2_0, at2_1]); (try dsimp only [Ty.den]); (try simp only [natc] at *); (repeat' (first | apply And.intro | intro _)))
    all_goals (try (simp only [IfP_iff, EqU_iff, Obl_iff, and_true, true_and, inI_iff, decide_eq_true_eq, decide_eq_false_iff_not]; (try simp only [natc, at2_0, at2_1]); (try dsimp only [Ty.den]); try simp only [natc] at *))
    all_goals ((repeat' (first | apply And.intro | intro _)) <;> first | omega | (simp only [List.length_append, List.length_cons, List.length_nil]; omega) | grind)
def hasB (l : List Int) (v : Int) : Bool := l.any fun x => decide (v = x)
theorem hasB_iff {l : List Int} {v : Int} : hasB l v = true ↔ v ∈ l := by
  unfold hasB
  rw [List.any_eq_true]
  constructor
  · rintro ⟨x, hx, h⟩; simp only [decide_eq_true_eq] at h; rw [h]; exact hx
  · intro h; exact ⟨v, h, by simp⟩
theorem go_contains (l : List Int) (v : Int) (hl : l.length ≤ 1048576) :
    Spec2 Try.prog 98 [.sl .int fun _ => l, .int fun _ => v] [] [.bool fun _ => hasB l v] [] := by
  have h1 := findI_any l fun x => decide (v = x)
  have h2 : hasB l v = _ := rfl
  conv at h2 => rhs; unfold hasB
  refine fnS [] [4] Try.func98 rfl (by decide) rfl (by decide) (by kernel_rfl) rfl (by simp [Try.ntmps98]) ?_
  cbv
  ((first | refine call_q (go_index l v hl) (by cbv) ?_ | refine call_pure (go_index l v hl) (by cbv) ?_); cbv; ((try simp only [IfP_iff, and_true, true_and, decide_eq_true_eq, decide_eq_false_iff_not]); (try simp only [natc, at2_0, at2_1]); (try dsimp only [Ty.den]); (try simp only [natc] at *); (repeat' (first | apply And.intro | intro _))))
  (simp only [IfP_iff, EqU_iff, Obl_iff, and_true, true_and, inI_iff, decide_eq_true_eq, decide_eq_false_iff_not]; (try simp only [natc, at2_0, at2_1]); (try dsimp only [Ty.den]); try simp only [natc] at *)
  grind
def findP (l : List (Int × Int)) (q : Int × Int → Bool) : Int := match l.findIdx? q with | some i => i | none => -1
theorem findP_hit {l : List (Int × Int)} {q : Int × Int → Bool} {k : Int} (h0 : 0 ≤ k) (h1 : k < (l.length : Int)) (hq : q (getI (.pr .int .int) l k) = true) (hn : ∀ j : Int, 0 ≤ j → j < k → q (getI (.pr .int .int) l j) = false) : findP l q = k := by
  have e : l.findIdx? q = some k.toNat := by
    rw [List.findIdx?_eq_some_iff_getElem]
    refine ⟨by omega, ?_, fun j hj => ?_⟩
    · have := (List.getElem?_eq_some_iff.1 (getI_get (t := (.pr .int .int)) h0 h1)).2
      rw [this]; exact hq
    · have h2 := (List.getElem?_eq_some_iff.1 (getI_get (t := (.pr .int .int)) (l := l) (i := (j : Int)) (by omega) (by omega))).2
      have h3 := hn j (by omega) (by omega)
      simp only [Int.toNat_natCast] at h2
      rw [h2, h3]; simp
  unfold findP
  rw [e]
  show ((k.toNat : Nat) : Int) = k
  omega
theorem findP_none {l : List (Int × Int)} {q : Int × Int → Bool} (hn : ∀ j : Int, 0 ≤ j → j < (l.length : Int) → q (getI (.pr .int .int) l j) = false) : findP l q = -1 := by
  have e : l.findIdx? q = none := by
    rw [List.findIdx?_eq_none_iff]
    intro x hx
    obtain ⟨j, hj, rfl⟩ := List.mem_iff_getElem.1 hx
    have h2 := (List.getElem?_eq_some_iff.1 (getI_get (t := (.pr .int .int)) (l := l) (i := (j : Int)) (by omega) (by omega))).2
    have h3 := hn j (by omega) (by omega)
    simp only [Int.toNat_natCast] at h2
    rw [h2, h3]
  unfold findP
  rw [e]
theorem findP_any (l : List (Int × Int)) (q : Int × Int → Bool) : decide (0 ≤ findP l q) = l.any q := by
  unfold findP
  cases h : l.findIdx? q with
  | none =>
    rw [List.findIdx?_eq_none_iff] at h
    have : l.any q = false := by rw [List.any_eq_false]; intro x hx; simp [h x hx]
    rw [this]; decide
  | some i =>
    rw [List.findIdx?_eq_some_iff_getElem] at h
    obtain ⟨h1, h2, _⟩ := h
    have : l.any q = true := by rw [List.any_eq_true]; exact ⟨_, List.getElem_mem h1, h2⟩
    rw [this]; simp
theorem go_indexFP (f : FuncId) (c : Unit → CapR) (q : Int × Int → Bool) (l : List (Int × Int)) (hl : l.length ≤ 1048576) (hf : ∀ x ∈ l, Fn1 Try.prog tab f c [.agg (.pr .int .int) fun _ => x] [.bool fun _ => q x]) :
    Spec2 Try.prog 118 [.sl (.pr .int .int) fun _ => l, .fnr f c] [] [.int fun _ => findP l q] [] := by
  refine fnS [] [4] Try.func118 rfl (by decide) rfl (by decide) (by kernel_rfl) rfl (by simp [Try.ntmps118]) ?_
  cbv
  refine loopP (by kernel_rfl) (fun k : Int => 0 ≤ k ∧ k ≤ l.length ∧ ∀ j : Int, 0 ≤ j → j < k → q (getI (.pr .int .int) l j) = false) (fun k => [(8, .int fun _ => k)]) (fun _ => []) (fun k => (l.length - k).toNat) (· + 1) 0 (by grind) ?_ ?_
  · cbv
    (simp only [IfP_iff, EqU_iff, Obl_iff, and_true, true_and, inI_iff, decide_eq_true_eq, decide_eq_false_iff_not]; (try simp only [natc, at2_0, at2_1]); (try dsimp only [Ty.den]); try simp only [natc] at *)
  · intro k hk
    have h1 := findP_hit (l := l) (q := q) (k := k)
    have h2 := findP_none (l := l) (q := q)
    have h3 := upTo (p := fun j => !q (getI (.pr .int .int) l j)) (k := k) (by simpa using hk.2.2)
    simp only [Bool.not_eq_true'] at h3
    have h4 : 0 ≤ k → k < (l.length : Int) → getI (.pr .int .int) l k ∈ l := fun a b => List.mem_of_getElem? (getI_get (t := (.pr .int .int)) a b)
    cbv
    ((try simp only [IfP_iff, and_true, true_and, decide_eq_true_eq, decide_eq_false_iff_not]); (try simp only [natc, at2_0, at2_1]); (try dsimp only [Ty.den]); (try simp only [natc] at *); (repeat' (first | apply And.intro | intro _)))
    repeat' (first | ((first | refine call_fnq (hf _ (h4 hk.1 (by assumption))) rfl (by cbv) ?_ | refine call_fn (hf _ (h4 hk.1 (by assumption))) rfl (by cbv) ?_); cbv; ((try simp only [IfP_iff, and_true, true_and, decide_eq_true_eq, decide_eq_false_iff_not]); (try simp only [natc, at2_0, at2_1]); (try dsimp only [Ty.den]); (try simp only [natc] at *); (repeat' (first | apply And.intro | intro _)))))
    all_goals (try (simp only [IfP_iff, EqU_iff, Obl_iff, and_true, true_and, inI_iff, decide_eq_true_eq, decide_eq_false_iff_not]; (try simp only [natc, at2_0, at2_1]); (try dsimp only [Ty.den]); try simp only [natc] at *))
    all_goals ((repeat' (first | apply And.intro | intro _)) <;> first | omega | (simp only [List.length_append, List.length_cons, List.length_nil]; omega) | grind)
theorem go_containsFP (f : FuncId) (c : Unit → CapR) (q : Int × Int → Bool) (l : List (Int × Int)) (hl : l.length ≤ 1048576) (hf : ∀ x ∈ l, Fn1 Try.prog tab f c [.agg (.pr .int .int) fun _ => x] [.bool fun _ => q x]) :
    Spec2 Try.prog 96 [.sl (.pr .int .int) fun _ => l, .fnr f c] [] [.bool fun _ => l.any q] [] := by
  have h1 := findP_any l q
  refine fnS [] [4] Try.func96 rfl (by decide) rfl (by decide) (by kernel_rfl) rfl (by simp [Try.ntmps96]) ?_
  cbv
  ((first | refine call_q (go_indexFP f c q l hl hf) (by cbv) ?_ | refine call_pure (go_indexFP f c q l hl hf) (by cbv) ?_); cbv; ((try simp only [IfP_iff, and_true, true_and, decide_eq_true_eq, decide_eq_false_iff_not]); (try simp only [natc, at2_0, at2_1]); (try dsimp only [Ty.den]); (try simp only [natc] at *); (repeat' (first | apply And.intro | intro _))))
  (simp only [IfP_iff, EqU_iff, Obl_iff, and_true, true_and, inI_iff, decide_eq_true_eq, decide_eq_false_iff_not]; (try simp only [natc, at2_0, at2_1]); (try dsimp only [Ty.den]); try simp only [natc] at *)
  grind
def nodeOk (n : Int) (s : List Int) (k : Int) : Bool := (decide (0 ≤ getI .int s k) && decide (getI .int s k < n)) && (decide (k ≤ 0) || decide (getI .int s (k - 1) < getI .int s k))
def ascB (n : Int) (s : List Int) : Bool := allI s.length (nodeOk n s)
theorem mem_at {s : List Int} {x : Int} (h : x ∈ s) : ∃ j : Int, 0 ≤ j ∧ j < s.length ∧ getI .int s j = x := by
  obtain ⟨j, hj, rfl⟩ := List.mem_iff_getElem.1 h
  have h2 := (List.getElem?_eq_some_iff.1 (getI_get (t := .int) (l := s) (i := (j : Int)) (by omega) (by omega))).2
  simp only [Int.toNat_natCast] at h2
  exact ⟨j, by omega, by omega, h2.symm⟩
def incOk (s : List Int) (k : Int) : Bool := decide (k ≤ 0) || decide (getI .int s (k - 1) < getI .int s k)
def incB (s : List Int) : Bool := allI s.length (incOk s)
theorem im_isAscending (s : List Int) (hs : s.length ≤ 1048576) : Spec2 Try.prog 120 [.sl .int fun _ => s] [] [.bool fun _ => incB s] [] := by
  have h9 : incB s = _ := rfl
  conv at h9 => rhs; unfold incB
  refine fnS [] [2] Try.func120 rfl (by decide) rfl (by decide) (by kernel_rfl) rfl (by simp [Try.ntmps120]) ?_
  cbv
  refine loopP (by kernel_rfl) (fun k : Int => 0 ≤ k ∧ k ≤ s.length ∧ ∀ j : Int, 0 ≤ j → j < k → incOk s j = true) (fun k => [(7, .int fun _ => k)]) (fun _ => []) (fun k => (s.length - k).toNat) (· + 1) 0 (by grind) ?_ ?_
  · cbv
    (simp only [IfP_iff, EqU_iff, Obl_iff, and_true, true_and, inI_iff, decide_eq_true_eq, decide_eq_false_iff_not]; (try simp only [natc, at2_0, at2_1]); (try dsimp only [Ty.den]); try simp only [natc] at *)
  · intro k hk
    have h1 := allI_bad (n := s.length) (p := incOk s) (k := k)
    have h2 := allI_good (n := s.length) (p := incOk s)
    have h3 := upTo (p := incOk s) hk.2.2
    have h4 : incOk s k = _ := rfl
    conv at h4 => rhs; unfold incOk
    cbv
    ((try simp only [IfP_iff, and_true, true_and, decide_eq_true_eq, decide_eq_false_iff_not]); (try simp only [natc, at2_0, at2_1]); (try dsimp only [Ty.den]); (try simp only [natc] at *); (repeat' (first | apply And.intro | intro _)))
    all_goals (try (simp only [IfP_iff, EqU_iff, Obl_iff, and_true, true_and, inI_iff, decide_eq_true_eq, decide_eq_false_iff_not]; (try simp only [natc, at2_0, at2_1]); (try dsimp only [Ty.den]); try simp only [natc] at *))
    all_goals ((repeat' (first | apply And.intro | intro _)) <;> first | omega | (simp only [List.length_append, List.length_cons, List.length_nil]; omega) | grind)
def outI (n x : Int) : Bool := !(decide (0 ≤ x) && decide (x < n))
theorem asc_split (n : Int) (s : List Int) : (incB s && !s.any (outI n)) = ascB n s := by
  rw [Bool.eq_iff_iff, Bool.and_eq_true]
  constructor
  · rintro ⟨h1, h2⟩
    refine allI_good fun k k0 k1 => ?_
    have a := allI_get h1 k0 k1
    unfold incOk at a
    rw [Bool.not_eq_true', List.any_eq_false] at h2
    have b := h2 _ (List.mem_of_getElem? (getI_get (t := .int) k0 k1))
    unfold outI at b
    rw [Bool.not_eq_true', Bool.not_eq_false] at b
    unfold nodeOk
    rw [a, b]
    rfl
  · intro h
    refine ⟨allI_good fun k k0 k1 => ?_, ?_⟩
    · have a := allI_get h k0 k1
      unfold nodeOk at a
      rw [Bool.and_eq_true] at a
      exact a.2
    · rw [Bool.not_eq_true', List.any_eq_false]
      intro x hx
      obtain ⟨j, j0, j1, j2⟩ := mem_at hx
      have a := allI_get h j0 j1
      unfold nodeOk at a
      rw [j2, Bool.and_eq_true] at a
      unfold outI
      rw [a.1]
      decide
theorem im_areIndexes1 (n x : Int) : Spec2 Try.prog 121 [.int fun _ => x, .ibox [.int fun _ => n] 0] [] [.bool fun _ => outI n x] [] := by
  have h9 : outI n x = _ := rfl
  conv at h9 => rhs; unfold outI
  refine fnS [] [3] Try.func121 rfl (by decide) rfl (by decide) (by kernel_rfl) rfl (by simp [Try.ntmps121]) ?_
  cbv
  repeat' (first | ((first | refine call_q (im_isIndex _ _) (by cbv) ?_ | refine call_pure (im_isIndex _ _) (by cbv) ?_); cbv; ((try simp only [IfP_iff, and_true, true_and, decide_eq_true_eq, decide_eq_false_iff_not]); (try simp only [natc, at2_0, at2_1]); (try dsimp only [Ty.den]); (try simp only [natc] at *); (repeat' (first | apply And.intro | intro _)))))
  all_goals (try (simp only [IfP_iff, EqU_iff, Obl_iff, and_true, true_and, inI_iff, decide_eq_true_eq, decide_eq_false_iff_not]; (try simp only [natc, at2_0, at2_1]); (try dsimp only [Ty.den]); try simp only [natc] at *))
  all_goals ((repeat' (first | apply And.intro | intro _)) <;> first | omega | (simp only [List.length_append, List.length_cons, List.length_nil]; omega) | grind)
theorem im_areIndexes (s : List Int) (n : Int) (hs : s.length ≤ 1048576) : Spec2 Try.prog 102 [.sl .int fun _ => s, .int fun _ => n] [] [.bool fun _ => ascB n s] [] := by
  have h9 := asc_split n s
  refine fnS [] [4] Try.func102 rfl (by decide) rfl (by decide) (by kernel_rfl) rfl (by simp [Try.ntmps102]) ?_
  cbv
  repeat' (first | ((first | refine call_q (im_isAscending s hs) (by cbv) ?_ | refine call_pure (im_isAscending s hs) (by cbv) ?_); cbv; ((try simp only [IfP_iff, and_true, true_and, decide_eq_true_eq, decide_eq_false_iff_not]); (try simp only [natc, at2_0, at2_1]); (try dsimp only [Ty.den]); (try simp only [natc] at *); (repeat' (first | apply And.intro | intro _)))))
  all_goals (try (simp only [IfP_iff, EqU_iff, Obl_iff, and_true, true_and, inI_iff, decide_eq_true_eq, decide_eq_false_iff_not]; (try simp only [natc, at2_0, at2_1]); (try dsimp only [Ty.den]); try simp only [natc] at *))
  ((try simp only [IfP_iff, and_true, true_and, decide_eq_true_eq, decide_eq_false_iff_not]); (try simp only [natc, at2_0, at2_1]); (try dsimp only [Ty.den]); (try simp only [natc] at *); (repeat' (first | apply And.intro | intro _)))
  all_goals (repeat' (first | ((first | refine call_q (go_containsF 121 (fun _ => ofCaps [.ibox [.int fun _ => n] 0]) (outI n) s hs fun x _ => ⟨_, rfl, fun _ => rfl, im_areIndexes1 n x⟩) (by cbv) ?_ | refine call_pure (go_containsF 121 (fun _ => ofCaps [.ibox [.int fun _ => n] 0]) (outI n) s hs fun x _ => ⟨_, rfl, fun _ => rfl, im_areIndexes1 n x⟩) (by cbv) ?_); cbv; ((try simp only [IfP_iff, and_true, true_and, decide_eq_true_eq, decide_eq_false_iff_not]); (try simp only [natc, at2_0, at2_1]); (try dsimp only [Ty.den]); (try simp only [natc] at *); (repeat' (first | apply And.intro | intro _))))))
  all_goals (try (simp only [IfP_iff, EqU_iff, Obl_iff, and_true, true_and, inI_iff, decide_eq_true_eq, decide_eq_false_iff_not]; (try simp only [natc, at2_0, at2_1]); (try dsimp only [Ty.den]); try simp only [natc] at *))
  all_goals ((repeat' (first | apply And.intro | intro _)) <;> first | omega | (simp only [List.length_append, List.length_cons, List.length_nil]; omega) | grind)
theorem im_areNodes (n : Int) (l : List (Int × Int)) (s : List Int) (hs : s.length ≤ 1048576) : Spec2 Try.prog 59 [.agg (.pr .int (.sl (.pr .int .int))) fun _ => (n, l), .sl .int fun _ => s] [] [.bool fun _ => ascB n s] [] := by
  refine fnS [] [4] Try.func59 rfl (by decide) rfl (by decide) (by kernel_rfl) rfl (by simp [Try.ntmps59]) ?_
  cbv
  repeat' (first | ((first | refine call_q (im_areIndexes s n hs) (by cbv) ?_ | refine call_pure (im_areIndexes s n hs) (by cbv) ?_); cbv; ((try simp only [IfP_iff, and_true, true_and, decide_eq_true_eq, decide_eq_false_iff_not]); (try simp only [natc, at2_0, at2_1]); (try dsimp only [Ty.den]); (try simp only [natc] at *); (repeat' (first | apply And.intro | intro _)))))
  all_goals (try (simp only [IfP_iff, EqU_iff, Obl_iff, and_true, true_and, inI_iff, decide_eq_true_eq, decide_eq_false_iff_not]; (try simp only [natc, at2_0, at2_1]); (try dsimp only [Ty.den]); try simp only [natc] at *))
  all_goals ((repeat' (first | apply And.intro | intro _)) <;> first | omega | (simp only [List.length_append, List.length_cons, List.length_nil]; omega) | grind)
def riseOk (s : List Int) (a b k : Int) : Bool := (decide (a ≤ getI .int s k) && decide (getI .int s k ≤ b)) && (decide (k ≤ 0) || decide (getI .int s (k - 1) < getI .int s k))
def riseB (s : List Int) (a b : Int) : Bool := allI s.length (riseOk s a b)
theorem sp_rising (s : List Int) (a b : Int) (hs : s.length ≤ 1048576) : Spec2 Try.prog 101 [.sl .int fun _ => s, .int fun _ => a, .int fun _ => b] [] [.bool fun _ => riseB s a b] [] := by
  have h9 : riseB s a b = _ := rfl
  conv at h9 => rhs; unfold riseB
  refine fnS [] [6] Try.func101 rfl (by decide) rfl (by decide) (by kernel_rfl) rfl (by simp [Try.ntmps101]) ?_
  cbv
  refine loopP (by kernel_rfl) (fun k : Int => 0 ≤ k ∧ k ≤ s.length ∧ ∀ j : Int, 0 ≤ j → j < k → riseOk s a b j = true) (fun k => [(7, .int fun _ => k)]) (fun _ => []) (fun k => (s.length - k).toNat) (· + 1) 0 (by grind) ?_ ?_
  · cbv
    (simp only [IfP_iff, EqU_iff, Obl_iff, and_true, true_and, inI_iff, decide_eq_true_eq, decide_eq_false_iff_not]; (try simp only [natc, at2_0, at2_1]); (try dsimp only [Ty.den]); try simp only [natc] at *)
  · intro k hk
    have h1 := allI_bad (n := s.length) (p := riseOk s a b) (k := k)
    have h2 := allI_good (n := s.length) (p := riseOk s a b)
    have h3 := upTo (p := riseOk s a b) hk.2.2
    have h4 : riseOk s a b k = _ := rfl
    conv at h4 => rhs; unfold riseOk
    cbv
    ((try simp only [IfP_iff, and_true, true_and, decide_eq_true_eq, decide_eq_false_iff_not]); (try simp only [natc, at2_0, at2_1]); (try dsimp only [Ty.den]); (try simp only [natc] at *); (repeat' (first | apply And.intro | intro _)))
    repeat' (first | ((first | refine call_q (sp_in _ _ _) (by cbv) ?_ | refine call_pure (sp_in _ _ _) (by cbv) ?_); cbv; ((try simp only [IfP_iff, and_true, true_and, decide_eq_true_eq, decide_eq_false_iff_not]); (try simp only [natc, at2_0, at2_1]); (try dsimp only [Ty.den]); (try simp only [natc] at *); (repeat' (first | apply And.intro | intro _)))))
    all_goals (try (simp only [IfP_iff, EqU_iff, Obl_iff, and_true, true_and, inI_iff, decide_eq_true_eq, decide_eq_false_iff_not]; (try simp only [natc, at2_0, at2_1]); (try dsimp only [Ty.den]); try simp only [natc] at *))
    all_goals ((repeat' (first | apply And.intro | intro _)) <;> first | omega | (simp only [List.length_append, List.length_cons, List.length_nil]; omega) | grind)
theorem rise_asc (n : Int) (s : List Int) : riseB s 0 (n - 1) = ascB n s := by
  unfold riseB ascB
  congr 1
  funext k
  unfold riseOk nodeOk
  have e : ∀ x : Int, decide (x ≤ n - 1) = decide (x < n) := fun x => by rw [decide_eq_decide]; omega
  rw [e]
theorem sp_set (n : Int) (l : List (Int × Int)) (s : List Int) (h0 : 0 ≤ n) (h1 : n ≤ 8) (hs : s.length ≤ 1048576) : Spec2 Try.prog 56 [.agg (.pr .int (.sl (.pr .int .int))) fun _ => (n, l), .sl .int fun _ => s] [] [.bool fun _ => ascB n s] [] := by
  have h9 := rise_asc n s
  refine fnS [] [4] Try.func56 rfl (by decide) rfl (by decide) (by kernel_rfl) rfl (by simp [Try.ntmps56]) ?_
  cbv
  ((try simp only [IfP_iff, and_true, true_and, decide_eq_true_eq, decide_eq_false_iff_not]); (try simp only [natc, at2_0, at2_1]); (try dsimp only [Ty.den]); (try simp only [natc] at *); (repeat' (first | apply And.intro | intro _)))
  all_goals (try ((first | refine call_q (sp_rising s 0 (n - 1) hs) (by cbv) ?_ | refine call_pure (sp_rising s 0 (n - 1) hs) (by cbv) ?_); cbv; ((try simp only [IfP_iff, and_true, true_and, decide_eq_true_eq, decide_eq_false_iff_not]); (try simp only [natc, at2_0, at2_1]); (try dsimp only [Ty.den]); (try simp only [natc] at *); (repeat' (first | apply And.intro | intro _)))))
  all_goals (try (simp only [IfP_iff, EqU_iff, Obl_iff, and_true, true_and, inI_iff, decide_eq_true_eq, decide_eq_false_iff_not]; (try simp only [natc, at2_0, at2_1]); (try dsimp only [Ty.den]); try simp only [natc] at *))
  all_goals ((repeat' (first | apply And.intro | intro _)) <;> first | omega | (simp only [List.length_append, List.length_cons, List.length_nil]; omega) | grind)
theorem asc_lt {n : Int} {s : List Int} (h : ascB n s = true) {a : Int} (h0 : 0 ≤ a) : ∀ {d : Nat}, a + d + 1 < (s.length : Int) → getI .int s a < getI .int s (a + d + 1)
  | 0, h1 => by
    have := allI_get (p := nodeOk n s) h (k := a + 1) (by omega) (by omega)
    unfold nodeOk at this
    simp only [Bool.and_eq_true, Bool.or_eq_true, decide_eq_true_eq] at this
    have e : a + 1 - 1 = a := by omega
    rw [e] at this
    have e : a + ((0 : Nat) : Int) + 1 = a + 1 := by omega
    rw [e]
    exact this.2.resolve_left (by omega)
  | d + 1, h1 => by
    have ih := asc_lt h h0 (d := d) (by omega)
    have := allI_get (p := nodeOk n s) h (k := a + d + 1 + 1) (by omega) (by omega)
    unfold nodeOk at this
    simp only [Bool.and_eq_true, Bool.or_eq_true, decide_eq_true_eq] at this
    have e : a + d + 1 + 1 - 1 = a + d + 1 := by omega
    rw [e] at this
    have e : a + ((d + 1 : Nat) : Int) + 1 = a + d + 1 + 1 := by omega
    rw [e]
    exact Int.lt_trans ih (this.2.resolve_left (by omega))
theorem asc_lt' {n : Int} {s : List Int} (h : ascB n s = true) {a b : Int} (h0 : 0 ≤ a) (h1 : a < b) (h2 : b < (s.length : Int)) : getI .int s a < getI .int s b := by
  have := asc_lt h h0 (d := (b - a - 1).toNat) (by omega)
  have e : a + ((b - a - 1).toNat : Int) + 1 = b := by omega
  rwa [e] at this
end Go.Proofs.Ythogfineaeklpaa.M

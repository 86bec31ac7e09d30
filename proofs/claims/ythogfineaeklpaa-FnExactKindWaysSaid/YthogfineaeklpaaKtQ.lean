/- Tight sets, greedy tight sets, ways of kinds: the program. -/
import Derived.Test.YthogfineaeklpaaKhQ
import Derived.Test.YthogfineaeklpaaTuQ
import Derived.Test.YthogfineaeklpaaQg
import Derived.Test.YthogfineaeklpaaRgQ
namespace Go.Proofs.Ythogfineaeklpaa.M
open Go.RowKit Abs
set_option linter.unusedSimpArgs false
set_option linter.unusedVariables false
set_option maxRecDepth 100000
set_option maxHeartbeats 4000000
def flipM (m x : Int) : Int := bxor m (1 * 2 ^ (min x.toNat 64))
def tightM (kind : Int) (R : List Int) (m x : Int) : Bool := (bitB m x != decide (kind = 2)) && holdsK kind R (flipM m x)
def okR (R : List Int) : Prop := ∀ x : Int, 0 ≤ x → x < R.length → 0 ≤ (getI .u64 R x : Int) ∧ (getI .u64 R x : Int) ≤ 255
theorem im_tightens (kind : Int) (R : List Int) (m x : Int) (hR : R.length ≤ 8) (hr : okR R) (m0 : 0 ≤ m) (m1 : m ≤ 255) (x0 : 0 ≤ x) (x1 : x < 8) : Spec2 Try.prog 75 [.cells [.int fun _ => kind, .sl .u64 fun _ => R], .u64 fun _ => m, .int fun _ => x] [] [.bool fun _ => tightM kind R m x] [] := by
  have b1 := bxor_in (a := m) m1 x0 x1
  have h9 : tightM kind R m x = ((bitB m x != decide (kind = 2)) && holdsK kind R (bxor m (1 * 2 ^ (min x.toNat 64)))) := rfl
  refine fnS [] [6] Try.func75 rfl (by decide) rfl (by decide) (by kernel_rfl) rfl (by simp [Try.ntmps75]) ?_
  cbv
  ((try simp only [IfP_iff, and_true, true_and, decide_eq_true_eq, decide_eq_false_iff_not]); (try simp only [natc, getI_gi, at2_0, at2_1]); (try dsimp only [Ty.den]); (try simp only [natc] at *); (repeat' (first | apply And.intro | intro _)))
  all_goals (repeat' (first | ((first | refine call_q (im_has m x m0 (by omega) x0 (by omega)) (by cbv) ?_ | refine call_pure (im_has m x m0 (by omega) x0 (by omega)) (by cbv) ?_); cbv; ((try simp only [IfP_iff, and_true, true_and, decide_eq_true_eq, decide_eq_false_iff_not]); (try simp only [natc, getI_gi, at2_0, at2_1]); (try dsimp only [Ty.den]); (try simp only [natc] at *); (repeat' (first | apply And.intro | intro _)))) | ((first | refine call_q (im_change m x m0 m1 x0 x1) (by cbv) ?_ | refine call_pure (im_change m x m0 m1 x0 x1) (by cbv) ?_); cbv; ((try simp only [IfP_iff, and_true, true_and, decide_eq_true_eq, decide_eq_false_iff_not]); (try simp only [natc, getI_gi, at2_0, at2_1]); (try dsimp only [Ty.den]); (try simp only [natc] at *); (repeat' (first | apply And.intro | intro _)))) | ((first | refine call_q (Spec2.agg (t := .pr .int (.sl .u64)) (x := fun _ => (kind, R)) (im_holdsK kind R (bxor m (1 * 2 ^ (min x.toNat 64))) hR hr b1.1 b1.2)) (by cbv) ?_ | refine call_pure (Spec2.agg (t := .pr .int (.sl .u64)) (x := fun _ => (kind, R)) (im_holdsK kind R (bxor m (1 * 2 ^ (min x.toNat 64))) hR hr b1.1 b1.2)) (by cbv) ?_); cbv; ((try simp only [IfP_iff, and_true, true_and, decide_eq_true_eq, decide_eq_false_iff_not]); (try simp only [natc, getI_gi, at2_0, at2_1]); (try dsimp only [Ty.den]); (try simp only [natc] at *); (repeat' (first | apply And.intro | intro _))))))
  all_goals (try clear hr)
  all_goals (try (simp only [IfP_iff, EqU_iff, Obl_iff, and_true, true_and, inI_iff, decide_eq_true_eq, decide_eq_false_iff_not]; (try simp only [natc, getI_gi, at2_0, at2_1]); (try dsimp only [Ty.den]); try simp only [natc] at *))
  all_goals ((repeat' (first | apply And.intro | intro _)) <;> first | omega | (simp only [List.length_append, List.length_cons, List.length_nil]; omega) | grind)
def looseM (kind : Int) (R : List Int) (m x : Int) : Bool := !tightM kind R m x
theorem im_isTight (kind : Int) (R : List Int) (m : Int) (hR : R.length ≤ 8) (hr : okR R) (m0 : 0 ≤ m) (m1 : m ≤ 255) : Spec2 Try.prog 65 [.cells [.int fun _ => kind, .sl .u64 fun _ => R], .u64 fun _ => m] [] [.bool fun _ => allI R.length (looseM kind R m)] [] := by
  refine fnS [] [4] Try.func65 rfl (by decide) rfl (by decide) (by kernel_rfl) rfl (by simp [Try.ntmps65]) ?_
  cbv
  refine loopP (by kernel_rfl) (fun k : Int => 0 ≤ k ∧ k ≤ R.length ∧ ∀ j : Int, 0 ≤ j → j < k → looseM kind R m j = true) (fun k => [(9, .int fun _ => k)]) (fun _ => []) (fun k => (R.length - k).toNat) (· + 1) 0 (by grind) ?_ ?_
  · cbv
    (simp only [IfP_iff, EqU_iff, Obl_iff, and_true, true_and, inI_iff, decide_eq_true_eq, decide_eq_false_iff_not]; (try simp only [natc, getI_gi, at2_0, at2_1]); (try dsimp only [Ty.den]); try simp only [natc] at *)
  · intro k hk
    have h1 := allI_bad (n := R.length) (p := looseM kind R m) (k := k)
    have h2 := allI_good (n := R.length) (p := looseM kind R m)
    have h3 := upTo (p := looseM kind R m) hk.2.2
    have h4 : looseM kind R m k = !tightM kind R m k := rfl
    cbv
    ((try simp only [IfP_iff, and_true, true_and, decide_eq_true_eq, decide_eq_false_iff_not]); (try simp only [natc, getI_gi, at2_0, at2_1]); (try dsimp only [Ty.den]); (try simp only [natc] at *); (repeat' (first | apply And.intro | intro _)))
    all_goals (repeat' (first | ((first | refine call_q (Spec2.agg (t := .pr .int (.sl .u64)) (x := fun _ => (kind, R)) (im_tightens kind R m k hR hr m0 m1 hk.1 (by omega))) (by cbv) ?_ | refine call_pure (Spec2.agg (t := .pr .int (.sl .u64)) (x := fun _ => (kind, R)) (im_tightens kind R m k hR hr m0 m1 hk.1 (by omega))) (by cbv) ?_); cbv; ((try simp only [IfP_iff, and_true, true_and, decide_eq_true_eq, decide_eq_false_iff_not]); (try simp only [natc, getI_gi, at2_0, at2_1]); (try dsimp only [Ty.den]); (try simp only [natc] at *); (repeat' (first | apply And.intro | intro _))))))
    all_goals (try clear hr)
    all_goals (try (simp only [IfP_iff, EqU_iff, Obl_iff, and_true, true_and, inI_iff, decide_eq_true_eq, decide_eq_false_iff_not]; (try simp only [natc, getI_gi, at2_0, at2_1]); (try dsimp only [Ty.den]); try simp only [natc] at *))
    all_goals ((repeat' (first | apply And.intro | intro _)) <;> first | omega | (simp only [List.length_append, List.length_cons, List.length_nil]; omega) | grind)
def hkR (n : Int) (l : List (Int × Int)) (kind : Int) (s : List Int) : Bool := (okK n l kind && ascB n s) && hasK n l kind s
theorem im_ruleSet_bad (n : Int) (l : List (Int × Int)) (kind : Int) (s : List Int) (hl : l.length ≤ 1048576) (hs : s.length ≤ 1048576) (hb : hkR n l kind s = false) : Spec2 Try.prog 64 [.agg (.pr .int (.sl (.pr .int .int))) fun _ => (n, l), .int fun _ => kind, .sl .int fun _ => s] [] [.cells [.int fun _ => 0, .nilsl], .u64 fun _ => 0, .bool fun _ => false] [] := by
  unfold hkR at hb
  refine fnG [.cst 6 2 58, .tmp 7, .tmp 8] Try.func64 rfl (by decide) rfl (by kernel_rfl) (.inr (.inr rfl)) (by kernel_rfl) (Nat.zero_le _) (by simp [Try.ntmps64]) ?_
  cbv
  repeat' (first | ((first | refine call_q (im_hasKind n l kind s hl hs) (by cbv) ?_ | refine call_pure (im_hasKind n l kind s hl hs) (by cbv) ?_); cbv; ((try simp only [IfP_iff, and_true, true_and, decide_eq_true_eq, decide_eq_false_iff_not]); (try simp only [natc, getI_gi, at2_0, at2_1]); (try dsimp only [Ty.den]); (try simp only [natc] at *); (repeat' (first | apply And.intro | intro _)))))
  all_goals (try (simp only [IfP_iff, EqU_iff, Obl_iff, and_true, true_and, inI_iff, decide_eq_true_eq, decide_eq_false_iff_not]; (try simp only [natc, getI_gi, at2_0, at2_1]); (try dsimp only [Ty.den]); try simp only [natc] at *))
  iterate 2
    · refine EndG.plain [] ?_
      cbv
      (simp only [IfP_iff, EqU_iff, Obl_iff, and_true, true_and, inI_iff, decide_eq_true_eq, decide_eq_false_iff_not]; (try simp only [natc, getI_gi, at2_0, at2_1]); (try dsimp only [Ty.den]); try simp only [natc] at *)
  exfalso
  simp_all
theorem im_ruleSet_ok (n : Int) (l : List (Int × Int)) (kind : Int) (s : List Int) (hl : l.length ≤ 1048576) (hs : s.length ≤ 1048576) (hb : hkR n l kind s = true) : Spec2 Try.prog 64 [.agg (.pr .int (.sl (.pr .int .int))) fun _ => (n, l), .int fun _ => kind, .sl .int fun _ => s] [] [.cells [.int fun _ => kind, .ref 0], .u64 fun _ => nset s, .bool fun _ => true] [some (.row 63 .u64 fun _ => nearS n l)] := by
  unfold hkR at hb
  simp only [Bool.and_eq_true] at hb
  obtain ⟨⟨hk, ha⟩, hh⟩ := hb
  obtain ⟨⟨g0, g1⟩, _, _, g2⟩ := okK_in hk
  refine fnG [.cst 6 2 58, .tmp 7, .tmp 8] Try.func64 rfl (by decide) rfl (by kernel_rfl) (.inr (.inr rfl)) (by kernel_rfl) (Nat.zero_le _) (by simp [Try.ntmps64]) ?_
  cbv
  repeat' (first | ((first | refine call_q (im_hasKind n l kind s hl hs) (by cbv) ?_ | refine call_pure (im_hasKind n l kind s hl hs) (by cbv) ?_); cbv; ((try simp only [IfP_iff, and_true, true_and, decide_eq_true_eq, decide_eq_false_iff_not]); (try simp only [natc, getI_gi, at2_0, at2_1]); (try dsimp only [Ty.den]); (try simp only [natc] at *); (repeat' (first | apply And.intro | intro _)))))
  all_goals (try (simp only [IfP_iff, EqU_iff, Obl_iff, and_true, true_and, inI_iff, decide_eq_true_eq, decide_eq_false_iff_not]; (try simp only [natc, getI_gi, at2_0, at2_1]); (try dsimp only [Ty.den]); try simp only [natc] at *))
  all_goals (repeat' (first | ((first | refine call_q (im_rule_ok n kind l hl hk) (by cbv) ?_ | refine call_pure (im_rule_ok n kind l hl hk) (by cbv) ?_); cbv; ((try simp only [IfP_iff, and_true, true_and, decide_eq_true_eq, decide_eq_false_iff_not]); (try simp only [natc, getI_gi, at2_0, at2_1]); (try dsimp only [Ty.den]); (try simp only [natc] at *); (repeat' (first | apply And.intro | intro _)))) | ((first | refine call_q (im_setOf s hs (fun x hx => by have := asc_mem ha x hx; omega)) (by cbv) ?_ | refine call_pure (im_setOf s hs (fun x hx => by have := asc_mem ha x hx; omega)) (by cbv) ?_); cbv; ((try simp only [IfP_iff, and_true, true_and, decide_eq_true_eq, decide_eq_false_iff_not]); (try simp only [natc, getI_gi, at2_0, at2_1]); (try dsimp only [Ty.den]); (try simp only [natc] at *); (repeat' (first | apply And.intro | intro _))))))
  all_goals (try (simp only [IfP_iff, EqU_iff, Obl_iff, and_true, true_and, inI_iff, decide_eq_true_eq, decide_eq_false_iff_not]; (try simp only [natc, getI_gi, at2_0, at2_1]); (try dsimp only [Ty.den]); try simp only [natc] at *))
  iterate 2
    · exfalso
      simp_all
  refine EndG.plain [2] ?_
  cbv
  (simp only [IfP_iff, EqU_iff, Obl_iff, and_true, true_and, inI_iff, decide_eq_true_eq, decide_eq_false_iff_not]; (try simp only [natc, getI_gi, at2_0, at2_1]); (try dsimp only [Ty.den]); try simp only [natc] at *)
theorem okR_near {n : Int} {l : List (Int × Int)} {kind : Int} (h : okK n l kind = true) : (nearS n l).length ≤ 8 ∧ okR (nearS n l) := by
  obtain ⟨⟨g0, g1⟩, _, _, g2⟩ := okK_in h
  refine ⟨by rw [nearS_len]; omega, fun x x0 x1 => ?_⟩
  rw [nearS_len] at x1
  obtain ⟨a, b, _⟩ := nearS_bits (x := x) g1 g2 x0 (by omega)
  exact ⟨a, b⟩
theorem hkR_in {n : Int} {l : List (Int × Int)} {kind : Int} {s : List Int} (h : hkR n l kind s = true) : okK n l kind = true ∧ ascB n s = true := by
  unfold hkR at h
  simp only [Bool.and_eq_true] at h
  exact h.1
def tsB (n : Int) (l : List (Int × Int)) (kind : Int) (s : List Int) : Bool := allI (nearS n l).length (looseM kind (nearS n l) (nset s))
theorem im_tightSet (n : Int) (l : List (Int × Int)) (kind : Int) (s : List Int) (hl : l.length ≤ 1048576) (hs : s.length ≤ 1048576) : Spec2 Try.prog 25 [.agg (.pr .int (.sl (.pr .int .int))) fun _ => (n, l), .int fun _ => kind, .sl .int fun _ => s] [] [.bool fun _ => hkR n l kind s && tsB n l kind s, .bool fun _ => hkR n l kind s] [] := by
  cases hb : hkR n l kind s with
  | false =>
    refine fnS [] [6, 7] Try.func25 rfl (by decide) rfl (by decide) (by kernel_rfl) rfl (by simp [Try.ntmps25]) ?_
    cbv
    repeat' (first | ((first | refine call_q (im_ruleSet_bad n l kind s hl hs hb) (by cbv) ?_ | refine call_pure (im_ruleSet_bad n l kind s hl hs hb) (by cbv) ?_); cbv; ((try simp only [IfP_iff, and_true, true_and, decide_eq_true_eq, decide_eq_false_iff_not]); (try simp only [natc, getI_gi, at2_0, at2_1]); (try dsimp only [Ty.den]); (try simp only [natc] at *); (repeat' (first | apply And.intro | intro _)))))
    all_goals (try (simp only [IfP_iff, EqU_iff, Obl_iff, and_true, true_and, inI_iff, decide_eq_true_eq, decide_eq_false_iff_not]; (try simp only [natc, getI_gi, at2_0, at2_1]); (try dsimp only [Ty.den]); try simp only [natc] at *))
    all_goals ((repeat' (first | apply And.intro | intro _)) <;> first | omega | (simp only [List.length_append, List.length_cons, List.length_nil]; omega) | grind)
  | true =>
    obtain ⟨hk, ha⟩ := hkR_in hb
    obtain ⟨⟨g0, g1⟩, _⟩ := okK_in hk
    obtain ⟨k1, k2⟩ := okR_near hk
    obtain ⟨a, b, _⟩ := nset_in g1 ha
    have h9 : tsB n l kind s = allI (nearS n l).length (looseM kind (nearS n l) (nset s)) := rfl
    refine fnS [] [6, 7] Try.func25 rfl (by decide) rfl (by decide) (by kernel_rfl) rfl (by simp [Try.ntmps25]) ?_
    cbv
    repeat' (first | ((first | refine call_q (im_ruleSet_ok n l kind s hl hs hb) (by cbv) ?_ | refine call_pure (im_ruleSet_ok n l kind s hl hs hb) (by cbv) ?_); cbv; ((try simp only [IfP_iff, and_true, true_and, decide_eq_true_eq, decide_eq_false_iff_not]); (try simp only [natc, getI_gi, at2_0, at2_1]); (try dsimp only [Ty.den]); (try simp only [natc] at *); (repeat' (first | apply And.intro | intro _)))) | ((first | refine call_q (Spec2.agg (t := .pr .int (.sl .u64)) (x := fun _ => (kind, nearS n l)) (im_isTight kind (nearS n l) (nset s) k1 k2 a b)) (by cbv) ?_ | refine call_pure (Spec2.agg (t := .pr .int (.sl .u64)) (x := fun _ => (kind, nearS n l)) (im_isTight kind (nearS n l) (nset s) k1 k2 a b)) (by cbv) ?_); cbv; ((try simp only [IfP_iff, and_true, true_and, decide_eq_true_eq, decide_eq_false_iff_not]); (try simp only [natc, getI_gi, at2_0, at2_1]); (try dsimp only [Ty.den]); (try simp only [natc] at *); (repeat' (first | apply And.intro | intro _)))))
    all_goals (try clear k2)
    all_goals (try (simp only [IfP_iff, EqU_iff, Obl_iff, and_true, true_and, inI_iff, decide_eq_true_eq, decide_eq_false_iff_not]; (try simp only [natc, getI_gi, at2_0, at2_1]); (try dsimp only [Ty.den]); try simp only [natc] at *))
    all_goals ((repeat' (first | apply And.intro | intro _)) <;> first | omega | (simp only [List.length_append, List.length_cons, List.length_nil]; omega) | grind)
def kwX (n : Int) (l : List (Int × Int)) (kind : Int) (s : List Int) (x : Int) : Bool := holdsK kind (nearS n l) (flipM (nset s) x)
def kwR (n : Int) (l : List (Int × Int)) (kind : Int) (s : List Int) : List Int := if hkR n l kind s = true then pref (kwX n l kind s) n.toNat else []
theorem kw_len (n : Int) (l : List (Int × Int)) (kind : Int) (s : List Int) : (kwR n l kind s).length ≤ 1048576 := by
  unfold kwR
  split
  · rename_i h
    obtain ⟨⟨g0, g1⟩, _⟩ := okK_in (hkR_in h).1
    have := pref_len (p := kwX n l kind s) (k := n) g0
    omega
  · simp
theorem im_kindWays (n : Int) (l : List (Int × Int)) (kind : Int) (s : List Int) (hl : l.length ≤ 1048576) (hs : s.length ≤ 1048576) : Spec2 Try.prog 37 [.agg (.pr .int (.sl (.pr .int .int))) fun _ => (n, l), .int fun _ => kind, .sl .int fun _ => s] [] [.ref 0, .bool fun _ => hkR n l kind s] [some (.row 3 .int fun _ => kwR n l kind s)] := by
  have h2 : kwR n l kind s = _ := rfl
  conv at h2 => rhs; unfold kwR
  cases hb : hkR n l kind s with
  | false =>
    have hb2 : kwR n l kind s = [] := by rw [h2, hb]; rfl
    rw [hb2]
    refine fnS [2] [6, 7] Try.func37 rfl (by decide) rfl (by decide) (by kernel_rfl) rfl (by simp [Try.ntmps37]) ?_
    cbv
    repeat' (first | ((first | refine call_q (im_ruleSet_bad n l kind s hl hs hb) (by cbv) ?_ | refine call_pure (im_ruleSet_bad n l kind s hl hs hb) (by cbv) ?_); cbv; ((try simp only [IfP_iff, and_true, true_and, decide_eq_true_eq, decide_eq_false_iff_not]); (try simp only [natc, getI_gi, at2_0, at2_1]); (try dsimp only [Ty.den]); (try simp only [natc] at *); (repeat' (first | apply And.intro | intro _)))))
    all_goals (try (simp only [IfP_iff, EqU_iff, Obl_iff, and_true, true_and, inI_iff, decide_eq_true_eq, decide_eq_false_iff_not]; (try simp only [natc, getI_gi, at2_0, at2_1]); (try dsimp only [Ty.den]); try simp only [natc] at *))
    all_goals (try (exact absurd (by assumption : (!false) = false) (by decide)))
    all_goals (try rfl)
  | true =>
    obtain ⟨hk, ha⟩ := hkR_in hb
    obtain ⟨⟨g0, g1⟩, _⟩ := okK_in hk
    obtain ⟨k1, k2⟩ := okR_near hk
    obtain ⟨a, b, _⟩ := nset_in g1 ha
    have hb2 : kwR n l kind s = pref (kwX n l kind s) n.toNat := by rw [h2, if_pos hb]
    rw [hb2]
    refine fnS [3] [6, 7] Try.func37 rfl (by decide) rfl (by decide) (by kernel_rfl) rfl (by simp [Try.ntmps37]) ?_
    cbv
    repeat' (first | ((first | refine call_q (im_ruleSet_ok n l kind s hl hs hb) (by cbv) ?_ | refine call_pure (im_ruleSet_ok n l kind s hl hs hb) (by cbv) ?_); cbv; ((try simp only [IfP_iff, and_true, true_and, decide_eq_true_eq, decide_eq_false_iff_not]); (try simp only [natc, getI_gi, at2_0, at2_1]); (try dsimp only [Ty.den]); (try simp only [natc] at *); (repeat' (first | apply And.intro | intro _)))))
    all_goals (try (simp only [IfP_iff, EqU_iff, Obl_iff, and_true, true_and, inI_iff, decide_eq_true_eq, decide_eq_false_iff_not]; (try simp only [natc, getI_gi, at2_0, at2_1]); (try dsimp only [Ty.den]); try simp only [natc] at *))
    all_goals (try (exact absurd (by assumption : (!true) = true) (by decide)))
    trace_state
    refine loopP (by kernel_rfl) (fun x : Int => 0 ≤ x ∧ x ≤ n) (fun x => [(27, .int fun _ => x), (11, .ref 3), (24, .junk)]) (fun x => [(3, some (.row 3 .int fun _ => pref (kwX n l kind s) x.toNat))]) (fun x => (n - x).toNat) (· + 1) 0 (by omega) ?_ ?_
    · cbv
      (simp only [IfP_iff, EqU_iff, Obl_iff, and_true, true_and, inI_iff, decide_eq_true_eq, decide_eq_false_iff_not]; (try simp only [natc, getI_gi, at2_0, at2_1]); (try dsimp only [Ty.den]); try simp only [natc] at *)
      simp [pref]
    · intro x hx
      have h1 := pref_next (p := kwX n l kind s) (k := x)
      have h3 := pref_len (p := kwX n l kind s) (k := x)
      have h4 : ¬ x < n → x.toNat = n.toNat := by omega
      have h5 : kwX n l kind s x = holdsK kind (nearS n l) (bxor (nset s) (1 * 2 ^ (min x.toNat 64))) := rfl
      have h6 : x < n → 0 ≤ bxor (nset s) (1 * 2 ^ (min x.toNat 64)) ∧ bxor (nset s) (1 * 2 ^ (min x.toNat 64)) ≤ 255 := fun h => bxor_in b hx.1 (by omega)
      clear h2
      cbv
      ((try simp only [IfP_iff, and_true, true_and, decide_eq_true_eq, decide_eq_false_iff_not]); (try simp only [natc, getI_gi, at2_0, at2_1]); (try dsimp only [Ty.den]); (try simp only [natc] at *); (repeat' (first | apply And.intro | intro _)))
      all_goals (repeat' (first | ((first | refine call_q (im_change (nset s) x a b hx.1 (by omega)) (by cbv) ?_ | refine call_pure (im_change (nset s) x a b hx.1 (by omega)) (by cbv) ?_); cbv; ((try simp only [IfP_iff, and_true, true_and, decide_eq_true_eq, decide_eq_false_iff_not]); (try simp only [natc, getI_gi, at2_0, at2_1]); (try dsimp only [Ty.den]); (try simp only [natc] at *); (repeat' (first | apply And.intro | intro _)))) | ((first | refine call_q (Spec2.agg (t := .pr .int (.sl .u64)) (x := fun _ => (kind, nearS n l)) (im_holdsK kind (nearS n l) (bxor (nset s) (1 * 2 ^ (min x.toNat 64))) k1 k2 (h6 (by assumption)).1 (h6 (by assumption)).2)) (by cbv) ?_ | refine call_pure (Spec2.agg (t := .pr .int (.sl .u64)) (x := fun _ => (kind, nearS n l)) (im_holdsK kind (nearS n l) (bxor (nset s) (1 * 2 ^ (min x.toNat 64))) k1 k2 (h6 (by assumption)).1 (h6 (by assumption)).2)) (by cbv) ?_); cbv; ((try simp only [IfP_iff, and_true, true_and, decide_eq_true_eq, decide_eq_false_iff_not]); (try simp only [natc, getI_gi, at2_0, at2_1]); (try dsimp only [Ty.den]); (try simp only [natc] at *); (repeat' (first | apply And.intro | intro _))))))
      all_goals (try clear k2)
      all_goals (try (simp only [IfP_iff, EqU_iff, Obl_iff, and_true, true_and, inI_iff, decide_eq_true_eq, decide_eq_false_iff_not]; (try simp only [natc, getI_gi, at2_0, at2_1]); (try dsimp only [Ty.den]); try simp only [natc] at *))
      all_goals ((repeat' (first | apply And.intro | intro _)) <;> first | omega | (simp only [List.length_append, List.length_cons, List.length_nil]; omega) | grind)
end Go.Proofs.Ythogfineaeklpaa.M

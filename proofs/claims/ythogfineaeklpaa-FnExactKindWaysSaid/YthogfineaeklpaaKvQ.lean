/- Tight sets, ways of kinds: the specification, and that it says what the program says. -/
import Derived.Test.YthogfineaeklpaaKtQ
import Derived.Test.YthogfineaeklpaaQg
namespace Go.Proofs.Ythogfineaeklpaa.M
open Go.RowKit Abs
set_option linter.unusedSimpArgs false
set_option linter.unusedVariables false
set_option maxRecDepth 100000
set_option maxHeartbeats 4000000
theorem flip_eq {n kind x : Int} {l : List (Int × Int)} {s : List Int} (h : okK n l kind = true) (ha : ascB n s = true) (x0 : 0 ≤ x) (x1 : x < n) : hasK n l kind (turnL s x) = holdsK kind (nearS n l) (flipM (nset s) x) := by
  obtain ⟨⟨g0, g1⟩, _, _, g2⟩ := okK_in h
  obtain ⟨a, b, c⟩ := nset_in g1 ha
  obtain ⟨b1, b2⟩ := bxor_in (a := nset s) (x := x) b x0 (by omega)
  unfold flipM
  rw [turn_eq ha x0 x1, hasK_eq g1 g2 (pref_ascB _ _), holds_eq g0 g1 g2 b1 b2]
  refine kindP_congr g1 fun y y0 y1 => ?_
  rw [bit_flip x0 (by omega) y0, c y y0]
  by_cases hy : y < n
  · rw [pref_hasB y0 (by omega)]
    rfl
  · have e1 : hasB s y = false := by
      cases he : hasB s y with
      | false => rfl
      | true => exact absurd (asc_mem ha y (hasB_iff.1 he)).2 hy
    have e2 : hasB (pref (flipP (hasB s) x) n.toNat) y = false := by
      cases he : hasB (pref (flipP (hasB s) x) n.toNat) y with
      | false => rfl
      | true =>
        have := (pref_mem.1 (hasB_iff.1 he)).2.1
        omega
    rw [e1, e2, show decide (y = x) = false by rw [decide_eq_false_iff_not]; omega]
    rfl
theorem sp_one (n : Int) (l : List (Int × Int)) (kind : Int) (s : List Int) (hl : l.length ≤ 1048576) (hs : s.length ≤ 1048576) : Spec2 Try.prog 62 [.agg (.pr .int (.sl (.pr .int .int))) fun _ => (n, l), .int fun _ => kind, .sl .int fun _ => s] [] [.bool fun _ => hkR n l kind s] [] := by
  have h9 : hkR n l kind s = ((okK n l kind && ascB n s) && hasK n l kind s) := rfl
  refine fnS [] [6] Try.func62 rfl (by decide) rfl (by decide) (by kernel_rfl) rfl (by simp [Try.ntmps62]) ?_
  cbv
  repeat' (first | ((first | refine call_q (sp_hasKind n l kind s hl hs) (by cbv) ?_ | refine call_pure (sp_hasKind n l kind s hl hs) (by cbv) ?_); cbv; ((try simp only [IfP_iff, and_true, true_and, decide_eq_true_eq, decide_eq_false_iff_not]); (try simp only [natc, getI_gi, at2_0, at2_1]); (try dsimp only [Ty.den]); (try simp only [natc] at *); (repeat' (first | apply And.intro | intro _)))))
  all_goals (try (simp only [IfP_iff, EqU_iff, Obl_iff, and_true, true_and, inI_iff, decide_eq_true_eq, decide_eq_false_iff_not]; (try simp only [natc, getI_gi, at2_0, at2_1]); (try dsimp only [Ty.den]); try simp only [natc] at *))
  all_goals ((repeat' (first | apply And.intro | intro _)) <;> first | omega | (simp only [List.length_append, List.length_cons, List.length_nil]; omega) | grind)
theorem loose_eq {n kind x : Int} {l : List (Int × Int)} {s : List Int} (h : okK n l kind = true) (ha : ascB n s = true) (x0 : 0 ≤ x) (x1 : x < n) : looseM kind (nearS n l) (nset s) x = !(decide (hasB s x = !decide (kind = 2)) && hasK n l kind (turnL s x)) := by
  obtain ⟨⟨g0, g1⟩, _⟩ := okK_in h
  obtain ⟨_, _, c⟩ := nset_in g1 ha
  unfold looseM tightM
  rw [flip_eq h ha x0 x1, c x x0]
  cases hasB s x <;> cases decide (kind = 2) <;> rfl
theorem sp_tight (n : Int) (l : List (Int × Int)) (kind : Int) (s : List Int) (hl : l.length ≤ 1048576) (hs : s.length ≤ 1048576) (hb : hkR n l kind s = true) : Spec2 Try.prog 63 [.agg (.pr .int (.sl (.pr .int .int))) fun _ => (n, l), .int fun _ => kind, .sl .int fun _ => s] [] [.bool fun _ => tsB n l kind s] [] := by
  obtain ⟨hk, ha⟩ := hkR_in hb
  obtain ⟨⟨g0, g1⟩, _⟩ := okK_in hk
  have hlen : s.length ≤ 8 := by
    rw [asc_pref ha]
    have := pref_len (p := hasB s) (k := n) g0
    omega
  have h9 : tsB n l kind s = allI n.toNat (looseM kind (nearS n l) (nset s)) := by
    unfold tsB
    rw [nearS_len]
  refine fnS [] [6] Try.func63 rfl (by decide) rfl (by decide) (by kernel_rfl) rfl (by simp [Try.ntmps63]) ?_
  cbv
  refine loopP (by kernel_rfl) (fun x : Int => 0 ≤ x ∧ x ≤ n ∧ ∀ j : Int, 0 ≤ j → j < x → looseM kind (nearS n l) (nset s) j = true) (fun x => [(7, .int fun _ => x)]) (fun _ => []) (fun x => (n - x).toNat) (· + 1) 0 (by grind) ?_ ?_
  · cbv
    (simp only [IfP_iff, EqU_iff, Obl_iff, and_true, true_and, inI_iff, decide_eq_true_eq, decide_eq_false_iff_not]; (try simp only [natc, getI_gi, at2_0, at2_1]); (try dsimp only [Ty.den]); try simp only [natc] at *)
  · intro x hx
    have h1 := allI_bad (n := n.toNat) (p := looseM kind (nearS n l) (nset s)) (k := x)
    have h2 := allI_good (n := n.toNat) (p := looseM kind (nearS n l) (nset s))
    have h3 := upTo (p := looseM kind (nearS n l) (nset s)) hx.2.2
    have h4 := fun h => loose_eq (x := x) hk ha hx.1 h
    have h5 := turn_len s x
    have h6 : ((n.toNat : Nat) : Int) = n := by omega
    cbv
    ((try simp only [IfP_iff, and_true, true_and, decide_eq_true_eq, decide_eq_false_iff_not]); (try simp only [natc, getI_gi, at2_0, at2_1]); (try dsimp only [Ty.den]); (try simp only [natc] at *); (repeat' (first | apply And.intro | intro _)))
    all_goals (repeat' (first | ((first | refine call_q (sp_has s x hs) (by cbv) ?_ | refine call_pure (sp_has s x hs) (by cbv) ?_); cbv; ((try simp only [IfP_iff, and_true, true_and, decide_eq_true_eq, decide_eq_false_iff_not]); (try simp only [natc, getI_gi, at2_0, at2_1]); (try dsimp only [Ty.den]); (try simp only [natc] at *); (repeat' (first | apply And.intro | intro _)))) | ((first | refine call_q (sp_turned s x hs) (by cbv) ?_ | refine call_pure (sp_turned s x hs) (by cbv) ?_); cbv; ((try simp only [IfP_iff, and_true, true_and, decide_eq_true_eq, decide_eq_false_iff_not]); (try simp only [natc, getI_gi, at2_0, at2_1]); (try dsimp only [Ty.den]); (try simp only [natc] at *); (repeat' (first | apply And.intro | intro _)))) | ((first | refine call_q (sp_l4Has n kind l (turnL s x) g0 g1 hl (by omega)) (by cbv) ?_ | refine call_pure (sp_l4Has n kind l (turnL s x) g0 g1 hl (by omega)) (by cbv) ?_); cbv; ((try simp only [IfP_iff, and_true, true_and, decide_eq_true_eq, decide_eq_false_iff_not]); (try simp only [natc, getI_gi, at2_0, at2_1]); (try dsimp only [Ty.den]); (try simp only [natc] at *); (repeat' (first | apply And.intro | intro _))))))
    all_goals (try (simp only [IfP_iff, EqU_iff, Obl_iff, and_true, true_and, inI_iff, decide_eq_true_eq, decide_eq_false_iff_not]; (try simp only [natc, getI_gi, at2_0, at2_1]); (try dsimp only [Ty.den]); try simp only [natc] at *))
    all_goals ((repeat' (first | apply And.intro | intro _)) <;> first | omega | (simp only [List.length_append, List.length_cons, List.length_nil]; omega) | grind)
theorem sp_tightSet (n : Int) (l : List (Int × Int)) (kind : Int) (s : List Int) (hl : l.length ≤ 1048576) (hs : s.length ≤ 1048576) : Spec2 Try.prog 24 [.agg (.pr .int (.sl (.pr .int .int))) fun _ => (n, l), .int fun _ => kind, .sl .int fun _ => s] [] [.bool fun _ => hkR n l kind s && tsB n l kind s, .bool fun _ => hkR n l kind s] [] := by
  refine fnS [] [6, 7] Try.func24 rfl (by decide) rfl (by decide) (by kernel_rfl) rfl (by simp [Try.ntmps24]) ?_
  cbv
  repeat' (first | ((first | refine call_q (sp_one n l kind s hl hs) (by cbv) ?_ | refine call_pure (sp_one n l kind s hl hs) (by cbv) ?_); cbv; ((try simp only [IfP_iff, and_true, true_and, decide_eq_true_eq, decide_eq_false_iff_not]); (try simp only [natc, getI_gi, at2_0, at2_1]); (try dsimp only [Ty.den]); (try simp only [natc] at *); (repeat' (first | apply And.intro | intro _)))))
  all_goals (try (simp only [IfP_iff, EqU_iff, Obl_iff, and_true, true_and, inI_iff, decide_eq_true_eq, decide_eq_false_iff_not]; (try simp only [natc, getI_gi, at2_0, at2_1]); (try dsimp only [Ty.den]); try simp only [natc] at *))
  ((try simp only [IfP_iff, and_true, true_and, decide_eq_true_eq, decide_eq_false_iff_not]); (try simp only [natc, getI_gi, at2_0, at2_1]); (try dsimp only [Ty.den]); (try simp only [natc] at *); (repeat' (first | apply And.intro | intro _)))
  all_goals (repeat' (first | ((first | refine call_q (sp_tight n l kind s hl hs (by grind)) (by cbv) ?_ | refine call_pure (sp_tight n l kind s hl hs (by grind)) (by cbv) ?_); cbv; ((try simp only [IfP_iff, and_true, true_and, decide_eq_true_eq, decide_eq_false_iff_not]); (try simp only [natc, getI_gi, at2_0, at2_1]); (try dsimp only [Ty.den]); (try simp only [natc] at *); (repeat' (first | apply And.intro | intro _))))))
  all_goals (try (simp only [IfP_iff, EqU_iff, Obl_iff, and_true, true_and, inI_iff, decide_eq_true_eq, decide_eq_false_iff_not]; (try simp only [natc, getI_gi, at2_0, at2_1]); (try dsimp only [Ty.den]); try simp only [natc] at *))
  all_goals ((repeat' (first | apply And.intro | intro _)) <;> first | omega | (simp only [List.length_append, List.length_cons, List.length_nil]; omega) | grind)
theorem sp_kindWays (n : Int) (l : List (Int × Int)) (kind : Int) (s : List Int) (hl : l.length ≤ 1048576) (hs : s.length ≤ 1048576) : Spec2 Try.prog 36 [.agg (.pr .int (.sl (.pr .int .int))) fun _ => (n, l), .int fun _ => kind, .sl .int fun _ => s] [] [.ref 0, .bool fun _ => hkR n l kind s] [some (.row 3 .int fun _ => kwR n l kind s)] := by
  have h2 : kwR n l kind s = _ := rfl
  conv at h2 => rhs; unfold kwR
  by_cases hb : hkR n l kind s = true
  case neg =>
    rw [Bool.not_eq_true] at hb
    have hb2 : kwR n l kind s = [] := by rw [h2, hb]; rfl
    rw [hb2]
    refine fnS [1] [6, 7] Try.func36 rfl (by decide) rfl (by decide) (by kernel_rfl) rfl (by simp [Try.ntmps36]) ?_
    cbv
    repeat' (first | ((first | refine call_q (sp_one n l kind s hl hs) (by cbv) ?_ | refine call_pure (sp_one n l kind s hl hs) (by cbv) ?_); cbv; ((try simp only [IfP_iff, and_true, true_and, decide_eq_true_eq, decide_eq_false_iff_not]); (try simp only [natc, getI_gi, at2_0, at2_1]); (try dsimp only [Ty.den]); (try simp only [natc] at *); (repeat' (first | apply And.intro | intro _)))))
    all_goals (try (simp only [IfP_iff, EqU_iff, Obl_iff, and_true, true_and, inI_iff, decide_eq_true_eq, decide_eq_false_iff_not]; (try simp only [natc, getI_gi, at2_0, at2_1]); (try dsimp only [Ty.den]); try simp only [natc] at *))
    · first
        | exact hb.symm
        | simp_all
    · exact absurd (by assumption : (!hkR n l kind s) = false) (by rw [hb]; decide)
  obtain ⟨hk, ha⟩ := hkR_in hb
  obtain ⟨⟨g0, g1⟩, _⟩ := okK_in hk
  have hlen : s.length ≤ 8 := by
    rw [asc_pref ha]
    have := pref_len (p := hasB s) (k := n) g0
    omega
  have hb2 : kwR n l kind s = pref (kwX n l kind s) n.toNat := by rw [h2, if_pos hb]
  rw [hb2]
  refine fnS [1] [6, 7] Try.func36 rfl (by decide) rfl (by decide) (by kernel_rfl) rfl (by simp [Try.ntmps36]) ?_
  cbv
  repeat' (first | ((first | refine call_q (sp_one n l kind s hl hs) (by cbv) ?_ | refine call_pure (sp_one n l kind s hl hs) (by cbv) ?_); cbv; ((try simp only [IfP_iff, and_true, true_and, decide_eq_true_eq, decide_eq_false_iff_not]); (try simp only [natc, getI_gi, at2_0, at2_1]); (try dsimp only [Ty.den]); (try simp only [natc] at *); (repeat' (first | apply And.intro | intro _)))))
  all_goals (try (simp only [IfP_iff, EqU_iff, Obl_iff, and_true, true_and, inI_iff, decide_eq_true_eq, decide_eq_false_iff_not]; (try simp only [natc, getI_gi, at2_0, at2_1]); (try dsimp only [Ty.den]); try simp only [natc] at *))
  · exact absurd (by assumption : (!hkR n l kind s) = true) (by rw [hb]; decide)
  · exact absurd (by assumption : (!hkR n l kind s) = true) (by rw [hb]; decide)
  refine loopP (by kernel_rfl) (fun x : Int => 0 ≤ x ∧ x ≤ n) (fun x => [(9, .int fun _ => x), (8, .ref 1), (10, .junk)]) (fun x => [(1, some (.row 3 .int fun _ => pref (kwX n l kind s) x.toNat))]) (fun x => (n - x).toNat) (· + 1) 0 (by omega) ?_ ?_
  · cbv
    (simp only [IfP_iff, EqU_iff, Obl_iff, and_true, true_and, inI_iff, decide_eq_true_eq, decide_eq_false_iff_not]; (try simp only [natc, getI_gi, at2_0, at2_1]); (try dsimp only [Ty.den]); try simp only [natc] at *)
    simp [pref]
  · intro x hx
    have h1 := pref_next (p := kwX n l kind s) (k := x)
    have h3 := pref_len (p := kwX n l kind s) (k := x)
    have h4 : ¬ x < n → x.toNat = n.toNat := by omega
    have h5 : x < n → hasK n l kind (turnL s x) = kwX n l kind s x := fun h => flip_eq hk ha hx.1 h
    have h6 := turn_len s x
    clear h2
    cbv
    ((try simp only [IfP_iff, and_true, true_and, decide_eq_true_eq, decide_eq_false_iff_not]); (try simp only [natc, getI_gi, at2_0, at2_1]); (try dsimp only [Ty.den]); (try simp only [natc] at *); (repeat' (first | apply And.intro | intro _)))
    all_goals (repeat' (first | ((first | refine call_q (sp_turned s x hs) (by cbv) ?_ | refine call_pure (sp_turned s x hs) (by cbv) ?_); cbv; ((try simp only [IfP_iff, and_true, true_and, decide_eq_true_eq, decide_eq_false_iff_not]); (try simp only [natc, getI_gi, at2_0, at2_1]); (try dsimp only [Ty.den]); (try simp only [natc] at *); (repeat' (first | apply And.intro | intro _)))) | ((first | refine call_q (sp_l4Has n kind l (turnL s x) g0 g1 hl (by omega)) (by cbv) ?_ | refine call_pure (sp_l4Has n kind l (turnL s x) g0 g1 hl (by omega)) (by cbv) ?_); cbv; ((try simp only [IfP_iff, and_true, true_and, decide_eq_true_eq, decide_eq_false_iff_not]); (try simp only [natc, getI_gi, at2_0, at2_1]); (try dsimp only [Ty.den]); (try simp only [natc] at *); (repeat' (first | apply And.intro | intro _))))))
    all_goals (try (simp only [IfP_iff, EqU_iff, Obl_iff, and_true, true_and, inI_iff, decide_eq_true_eq, decide_eq_false_iff_not]; (try simp only [natc, getI_gi, at2_0, at2_1]); (try dsimp only [Ty.den]); try simp only [natc] at *))
    all_goals ((repeat' (first | apply And.intro | intro _)) <;> first | omega | (simp only [List.length_append, List.length_cons, List.length_nil]; omega) | grind)
end Go.Proofs.Ythogfineaeklpaa.M

/- Whether a set has a kind, in the specification. -/
import Derived.Test.YthogfineaeklpaaKpQ
import Derived.Test.YthogfineaeklpaaQg
import Derived.Test.YthogfineaeklpaaKiQ
namespace Go.Proofs.Ythogfineaeklpaa.M
open Go.RowKit Abs
set_option linter.unusedSimpArgs false
set_option linter.unusedVariables false
set_option maxRecDepth 100000
set_option maxHeartbeats 4000000
theorem sp_kind (kind : Int) : Spec2 Try.prog 100 [.int fun _ => kind] [] [.bool fun _ => decide (1 ≤ kind) && decide (kind ≤ 3)] [] := by
  refine fnS [] [2] Try.func100 rfl (by decide) rfl (by decide) (by kernel_rfl) rfl (by simp [Try.ntmps100]) ?_
  cbv
  repeat' (first | ((first | refine call_q (sp_in _ _ _) (by cbv) ?_ | refine call_pure (sp_in _ _ _) (by cbv) ?_); cbv; ((try simp only [IfP_iff, and_true, true_and, decide_eq_true_eq, decide_eq_false_iff_not]); (try simp only [natc, getI_gi, at2_0, at2_1]); (try dsimp only [Ty.den]); (try simp only [natc] at *); (repeat' (first | apply And.intro | intro _)))))
  all_goals (try (simp only [IfP_iff, EqU_iff, Obl_iff, and_true, true_and, inI_iff, decide_eq_true_eq, decide_eq_false_iff_not]; (try simp only [natc, getI_gi, at2_0, at2_1]); (try dsimp only [Ty.den]); try simp only [natc] at *))
  all_goals ((repeat' (first | apply And.intro | intro _)) <;> first | omega | (simp only [List.length_append, List.length_cons, List.length_nil]; omega) | grind)
theorem sp_okK (n kind : Int) (l : List (Int × Int)) (hl : l.length ≤ 1048576) : Spec2 Try.prog 55 [.agg (.pr .int (.sl (.pr .int .int))) fun _ => (n, l), .int fun _ => kind] [] [.bool fun _ => okK n l kind] [] := by
  have h9 : okK n l kind = _ := rfl
  conv at h9 => rhs; unfold okK
  refine fnS [] [4] Try.func55 rfl (by decide) rfl (by decide) (by kernel_rfl) rfl (by simp [Try.ntmps55]) ?_
  cbv
  repeat' (first | ((first | refine call_q (sp_good n l hl) (by cbv) ?_ | refine call_pure (sp_good n l hl) (by cbv) ?_); cbv; ((try simp only [IfP_iff, and_true, true_and, decide_eq_true_eq, decide_eq_false_iff_not]); (try simp only [natc, getI_gi, at2_0, at2_1]); (try dsimp only [Ty.den]); (try simp only [natc] at *); (repeat' (first | apply And.intro | intro _)))) | ((first | refine call_q (sp_kind kind) (by cbv) ?_ | refine call_pure (sp_kind kind) (by cbv) ?_); cbv; ((try simp only [IfP_iff, and_true, true_and, decide_eq_true_eq, decide_eq_false_iff_not]); (try simp only [natc, getI_gi, at2_0, at2_1]); (try dsimp only [Ty.den]); (try simp only [natc] at *); (repeat' (first | apply And.intro | intro _)))))
  all_goals (try (simp only [IfP_iff, EqU_iff, Obl_iff, and_true, true_and, inI_iff, decide_eq_true_eq, decide_eq_false_iff_not]; (try simp only [natc, getI_gi, at2_0, at2_1]); (try dsimp only [Ty.den]); try simp only [natc] at *))
  all_goals ((repeat' (first | apply And.intro | intro _)) <;> first | omega | (simp only [List.length_append, List.length_cons, List.length_nil]; omega) | grind)
theorem or_false_any {l : List (Int × Int)} {s : List Int} {x i : Int} (h0 : 0 ≤ i) (h1 : i < (s.length : Int)) : (hasB s x || (s.take (i + 1).toNat).any fun v => nearB l v x) = ((hasB s x || (s.take i.toNat).any fun v => nearB l v x) || nearB l (gi s i) x) := by
  rw [take_gi h0 h1, List.any_append, Bool.or_assoc]
  simp
theorem sp_l4Has (n kind : Int) (l : List (Int × Int)) (s : List Int) (g0 : 0 ≤ n) (g1 : n ≤ 8) (hl : l.length ≤ 1048576) (hs : s.length ≤ 1048576) : Spec2 Try.prog 57 [.agg (.pr .int (.sl (.pr .int .int))) fun _ => (n, l), .int fun _ => kind, .sl .int fun _ => s] [] [.bool fun _ => hasK n l kind s] [] := by
  have h9 : hasK n l kind s = _ := rfl
  conv at h9 => rhs; unfold hasK
  refine fnS [] [6] Try.func57 rfl (by decide) rfl (by decide) (by kernel_rfl) rfl (by simp [Try.ntmps57]) ?_
  cbv
  ((try simp only [IfP_iff, and_true, true_and, decide_eq_true_eq, decide_eq_false_iff_not]); (try simp only [natc, getI_gi, at2_0, at2_1]); (try dsimp only [Ty.den]); (try simp only [natc] at *); (repeat' (first | apply And.intro | intro _)))
  · refine loopP (by kernel_rfl) (fun k : Int => 0 ≤ k ∧ k ≤ l.length ∧ ∀ j : Int, 0 ≤ j → j < k → covB l s j = true) (fun k => [(7, .int fun _ => k)]) (fun _ => []) (fun k => (l.length - k).toNat) (· + 1) 0 (by grind) ?_ ?_
    · cbv
      (simp only [IfP_iff, EqU_iff, Obl_iff, and_true, true_and, inI_iff, decide_eq_true_eq, decide_eq_false_iff_not]; (try simp only [natc, getI_gi, at2_0, at2_1]); (try dsimp only [Ty.den]); try simp only [natc] at *)
    · intro k hk
      have h1 := allI_bad (n := l.length) (p := covB l s) (k := k)
      have h2 := allI_good (n := l.length) (p := covB l s)
      have h3 := upTo (p := covB l s) hk.2.2
      have h4 : covB l s k = _ := rfl
      conv at h4 => rhs; unfold covB
      cbv
      ((try simp only [IfP_iff, and_true, true_and, decide_eq_true_eq, decide_eq_false_iff_not]); (try simp only [natc, getI_gi, at2_0, at2_1]); (try dsimp only [Ty.den]); (try simp only [natc] at *); (repeat' (first | apply And.intro | intro _)))
      all_goals (repeat' (first | ((first | refine call_q (sp_has s _ hs) (by cbv) ?_ | refine call_pure (sp_has s _ hs) (by cbv) ?_); cbv; ((try simp only [IfP_iff, and_true, true_and, decide_eq_true_eq, decide_eq_false_iff_not]); (try simp only [natc, getI_gi, at2_0, at2_1]); (try dsimp only [Ty.den]); (try simp only [natc] at *); (repeat' (first | apply And.intro | intro _))))))
      all_goals (try (simp only [IfP_iff, EqU_iff, Obl_iff, and_true, true_and, inI_iff, decide_eq_true_eq, decide_eq_false_iff_not]; (try simp only [natc, getI_gi, at2_0, at2_1]); (try dsimp only [Ty.den]); try simp only [natc] at *))
      all_goals ((repeat' (first | apply And.intro | intro _)) <;> first | omega | (simp only [List.length_append, List.length_cons, List.length_nil]; omega) | grind)
  · refine loopP (by kernel_rfl) (fun k : Int => 0 ≤ k ∧ k ≤ s.length ∧ ∀ j : Int, 0 ≤ j → j < k → cliB l s j = true) (fun k => [(8, .int fun _ => k)]) (fun _ => []) (fun k => (s.length - k).toNat) (· + 1) 0 (by grind) ?_ ?_
    · cbv
      (simp only [IfP_iff, EqU_iff, Obl_iff, and_true, true_and, inI_iff, decide_eq_true_eq, decide_eq_false_iff_not]; (try simp only [natc, getI_gi, at2_0, at2_1]); (try dsimp only [Ty.den]); try simp only [natc] at *)
    · intro k hk
      have h1 := allI_bad (n := s.length) (p := cliB l s) (k := k)
      have h2 := allI_good (n := s.length) (p := cliB l s)
      have h3 := upTo (p := cliB l s) hk.2.2
      have h4 : cliB l s k = _ := rfl
      conv at h4 => rhs; unfold cliB
      cbv
      ((try simp only [IfP_iff, and_true, true_and, decide_eq_true_eq, decide_eq_false_iff_not]); (try simp only [natc, getI_gi, at2_0, at2_1]); (try dsimp only [Ty.den]); (try simp only [natc] at *); (repeat' (first | apply And.intro | intro _)))
      · refine loopP (by kernel_rfl) (fun i : Int => 0 ≤ i ∧ i ≤ k ∧ ∀ j : Int, 0 ≤ j → j < i → cliX l s k j = true) (fun i => [(9, .int fun _ => i)]) (fun _ => []) (fun i => (k - i).toNat) (· + 1) 0 (by grind) ?_ ?_
        · cbv
          (simp only [IfP_iff, EqU_iff, Obl_iff, and_true, true_and, inI_iff, decide_eq_true_eq, decide_eq_false_iff_not]; (try simp only [natc, getI_gi, at2_0, at2_1]); (try dsimp only [Ty.den]); try simp only [natc] at *)
        · intro i hi
          have i1 := allI_bad (n := k.toNat) (p := cliX l s k) (k := i)
          have i2 := allI_good (n := k.toNat) (p := cliX l s k)
          have i3 := upTo (p := cliX l s k) hi.2.2
          have i4 : cliX l s k i = nearB l (gi s k) (gi s i) := rfl
          cbv
          ((try simp only [IfP_iff, and_true, true_and, decide_eq_true_eq, decide_eq_false_iff_not]); (try simp only [natc, getI_gi, at2_0, at2_1]); (try dsimp only [Ty.den]); (try simp only [natc] at *); (repeat' (first | apply And.intro | intro _)))
          all_goals (repeat' (first | ((first | refine call_q (sp_near n l _ _ hl) (by cbv) ?_ | refine call_pure (sp_near n l _ _ hl) (by cbv) ?_); cbv; ((try simp only [IfP_iff, and_true, true_and, decide_eq_true_eq, decide_eq_false_iff_not]); (try simp only [natc, getI_gi, at2_0, at2_1]); (try dsimp only [Ty.den]); (try simp only [natc] at *); (repeat' (first | apply And.intro | intro _))))))
          all_goals (try (simp only [IfP_iff, EqU_iff, Obl_iff, and_true, true_and, inI_iff, decide_eq_true_eq, decide_eq_false_iff_not]; (try simp only [natc, getI_gi, at2_0, at2_1]); (try dsimp only [Ty.den]); try simp only [natc] at *))
          all_goals ((repeat' (first | apply And.intro | intro _)) <;> first | omega | (simp only [List.length_append, List.length_cons, List.length_nil]; omega) | grind)
      all_goals (try (simp only [IfP_iff, EqU_iff, Obl_iff, and_true, true_and, inI_iff, decide_eq_true_eq, decide_eq_false_iff_not]; (try simp only [natc, getI_gi, at2_0, at2_1]); (try dsimp only [Ty.den]); try simp only [natc] at *))
      all_goals ((repeat' (first | apply And.intro | intro _)) <;> first | omega | (simp only [List.length_append, List.length_cons, List.length_nil]; omega) | grind)
  · refine loopP (by kernel_rfl) (fun k : Int => 0 ≤ k ∧ k ≤ n ∧ ∀ j : Int, 0 ≤ j → j < k → domB l s j = true) (fun k => [(10, .int fun _ => k)]) (fun _ => []) (fun k => (n - k).toNat) (· + 1) 0 (by grind) ?_ ?_
    · cbv
      (simp only [IfP_iff, EqU_iff, Obl_iff, and_true, true_and, inI_iff, decide_eq_true_eq, decide_eq_false_iff_not]; (try simp only [natc, getI_gi, at2_0, at2_1]); (try dsimp only [Ty.den]); try simp only [natc] at *)
    · intro k hk
      have h1 := allI_bad (n := n.toNat) (p := domB l s) (k := k)
      have h2 := allI_good (n := n.toNat) (p := domB l s)
      have h3 := upTo (p := domB l s) hk.2.2
      have h4 : domB l s k = _ := rfl
      conv at h4 => rhs; unfold domB
      have h5 : ((n.toNat : Nat) : Int) = n := by omega
      cbv
      ((try simp only [IfP_iff, and_true, true_and, decide_eq_true_eq, decide_eq_false_iff_not]); (try simp only [natc, getI_gi, at2_0, at2_1]); (try dsimp only [Ty.den]); (try simp only [natc] at *); (repeat' (first | apply And.intro | intro _)))
      all_goals (try ((first | refine call_q (sp_has s k hs) (by cbv) ?_ | refine call_pure (sp_has s k hs) (by cbv) ?_); cbv; ((try simp only [IfP_iff, and_true, true_and, decide_eq_true_eq, decide_eq_false_iff_not]); (try simp only [natc, getI_gi, at2_0, at2_1]); (try dsimp only [Ty.den]); (try simp only [natc] at *); (repeat' (first | apply And.intro | intro _)))))
      · refine loopP (by kernel_rfl) (fun i : Int => 0 ≤ i ∧ i ≤ s.length) (fun i => [(12, .int fun _ => i), (11, .bool fun _ => hasB s k || (s.take i.toNat).any fun v => nearB l v k)]) (fun _ => []) (fun i => (s.length - i).toNat) (· + 1) 0 (by grind) ?_ ?_
        · cbv
          (simp only [IfP_iff, EqU_iff, Obl_iff, and_true, true_and, inI_iff, decide_eq_true_eq, decide_eq_false_iff_not]; (try simp only [natc, getI_gi, at2_0, at2_1]); (try dsimp only [Ty.den]); try simp only [natc] at *)
          simp
        · intro i hi
          have i1 := or_false_any (l := l) (s := s) (x := k) (i := i) hi.1
          have i2 : ¬ i < (s.length : Int) → s.take i.toNat = s := fun h => List.take_of_length_le (by omega)
          cbv
          ((try simp only [IfP_iff, and_true, true_and, decide_eq_true_eq, decide_eq_false_iff_not]); (try simp only [natc, getI_gi, at2_0, at2_1]); (try dsimp only [Ty.den]); (try simp only [natc] at *); (repeat' (first | apply And.intro | intro _)))
          all_goals (repeat' (first | ((first | refine call_q (sp_near n l _ _ hl) (by cbv) ?_ | refine call_pure (sp_near n l _ _ hl) (by cbv) ?_); cbv; ((try simp only [IfP_iff, and_true, true_and, decide_eq_true_eq, decide_eq_false_iff_not]); (try simp only [natc, getI_gi, at2_0, at2_1]); (try dsimp only [Ty.den]); (try simp only [natc] at *); (repeat' (first | apply And.intro | intro _))))))
          all_goals (try (simp only [IfP_iff, EqU_iff, Obl_iff, and_true, true_and, inI_iff, decide_eq_true_eq, decide_eq_false_iff_not]; (try simp only [natc, getI_gi, at2_0, at2_1]); (try dsimp only [Ty.den]); try simp only [natc] at *))
          all_goals ((repeat' (first | apply And.intro | intro _)) <;> first | omega | (simp only [List.length_append, List.length_cons, List.length_nil]; omega) | grind)
      all_goals (try (simp only [IfP_iff, EqU_iff, Obl_iff, and_true, true_and, inI_iff, decide_eq_true_eq, decide_eq_false_iff_not]; (try simp only [natc, getI_gi, at2_0, at2_1]); (try dsimp only [Ty.den]); try simp only [natc] at *))
      all_goals ((repeat' (first | apply And.intro | intro _)) <;> first | omega | (simp only [List.length_append, List.length_cons, List.length_nil]; omega) | grind)
theorem sp_hasKind (n : Int) (l : List (Int × Int)) (kind : Int) (s : List Int) (hl : l.length ≤ 1048576) (hs : s.length ≤ 1048576) : Spec2 Try.prog 22 [.agg (.pr .int (.sl (.pr .int .int))) fun _ => (n, l), .int fun _ => kind, .sl .int fun _ => s] [] [.bool fun _ => (okK n l kind && ascB n s) && hasK n l kind s, .bool fun _ => okK n l kind && ascB n s] [] := by
  have h1 : okK n l kind = true → 0 ≤ n ∧ n ≤ 8 := by unfold okK; simp [graphOk]; omega
  refine fnS [] [6, 7] Try.func22 rfl (by decide) rfl (by decide) (by kernel_rfl) rfl (by simp [Try.ntmps22]) ?_
  cbv
  ((try simp only [IfP_iff, and_true, true_and, decide_eq_true_eq, decide_eq_false_iff_not]); (try simp only [natc, getI_gi, at2_0, at2_1]); (try dsimp only [Ty.den]); (try simp only [natc] at *); (repeat' (first | apply And.intro | intro _)))
  all_goals (repeat' (first | ((first | refine call_q (sp_okK n kind l hl) (by cbv) ?_ | refine call_pure (sp_okK n kind l hl) (by cbv) ?_); cbv; ((try simp only [IfP_iff, and_true, true_and, decide_eq_true_eq, decide_eq_false_iff_not]); (try simp only [natc, getI_gi, at2_0, at2_1]); (try dsimp only [Ty.den]); (try simp only [natc] at *); (repeat' (first | apply And.intro | intro _)))) | ((first | refine call_q (sp_set n l s (by grind) (by grind) hs) (by cbv) ?_ | refine call_pure (sp_set n l s (by grind) (by grind) hs) (by cbv) ?_); cbv; ((try simp only [IfP_iff, and_true, true_and, decide_eq_true_eq, decide_eq_false_iff_not]); (try simp only [natc, getI_gi, at2_0, at2_1]); (try dsimp only [Ty.den]); (try simp only [natc] at *); (repeat' (first | apply And.intro | intro _)))) | ((first | refine call_q (sp_l4Has n kind l s (by grind) (by grind) hl hs) (by cbv) ?_ | refine call_pure (sp_l4Has n kind l s (by grind) (by grind) hl hs) (by cbv) ?_); cbv; ((try simp only [IfP_iff, and_true, true_and, decide_eq_true_eq, decide_eq_false_iff_not]); (try simp only [natc, getI_gi, at2_0, at2_1]); (try dsimp only [Ty.den]); (try simp only [natc] at *); (repeat' (first | apply And.intro | intro _))))))
  all_goals (try (simp only [IfP_iff, EqU_iff, Obl_iff, and_true, true_and, inI_iff, decide_eq_true_eq, decide_eq_false_iff_not]; (try simp only [natc, getI_gi, at2_0, at2_1]); (try dsimp only [Ty.den]); try simp only [natc] at *))
  all_goals ((repeat' (first | apply And.intro | intro _)) <;> first | omega | (simp only [List.length_append, List.length_cons, List.length_nil]; omega) | grind)
end Go.Proofs.Ythogfineaeklpaa.M

/- Permutations grow by orderRule: impl.grown, the walk. -/
import Derived.Test.YtoejmijcikehdaaWgQ
import Derived.Test.YtoejmijcikehdaaQg
namespace Go.Proofs.Ytoejmijcikehdaa.M
open Go.RowKit Abs
set_option linter.unusedSimpArgs false
set_option linter.unusedVariables false
set_option maxRecDepth 100000
set_option maxHeartbeats 4000000
theorem im_grownO (n : Int) (n0 : 0 ≤ n) (n1 : n ≤ 5) : ∀ (f : Nat) (l : List Int), (l.length : Int) + f = n → Spec2 Try.prog 81 [.ifr 94 fun _ => ofBound [.cells [.int fun _ => n]], .ref 0, .sl .int fun _ => l] [some (.row 3 .int fun _ => l)] [.ref 1] [none, some (.rows 22 3 .int fun _ => grv n f l)]
  | 0, l, hk => by
    have hl : l.length ≤ 1048576 := by omega
    have e1 : decide ((l.length : Int) = n) = true := by rw [decide_eq_true_eq]; omega
    have s1 := im_oWhole n l hl
    rw [e1] at s1
    have e2 : [l] = grv n 0 l := rfl
    generalize grv n 0 l = G at *
    refine fnG [.tmp 6] Try.func81 rfl (by decide) rfl (by kernel_rfl) (.inl rfl) (by kernel_rfl) (by simp) (by simp [Try.ntmps81]) ?_
    cbv
    ((first | refine call_iq (by kernel_rfl) rfl s1 (by cbv) ?_ | refine call_i (by kernel_rfl) rfl s1 (by cbv) ?_); cbv; ((try simp only [IfP_iff, and_true, true_and, decide_eq_true_eq, decide_eq_false_iff_not]); (try simp only [natc, getI_gi, at2_0, at2_1]); (try dsimp only [Ty.den]); (try simp only [natc] at *); (repeat' (first | apply And.intro | intro _))))
    ((try simp only [IfP_iff, and_true, true_and, decide_eq_true_eq, decide_eq_false_iff_not]); (try simp only [natc, getI_gi, at2_0, at2_1]); (try dsimp only [Ty.den]); (try simp only [natc] at *); (repeat' (first | apply And.intro | intro _)))
    all_goals (first
      | (exfalso; simp_all; done)
      | (refine EndG.plain [0, 1] ?_
         cbv
         (simp only [IfP_iff, EqU_iff, Obl_iff, and_true, true_and, inI_iff, decide_eq_true_eq, decide_eq_false_iff_not]; (try simp only [natc, getI_gi, at2_0, at2_1]); (try dsimp only [Ty.den]); try simp only [natc] at *)
         exact e2)
      | trace_state)
  | f + 1, l, hk => by
    have hl : l.length ≤ 1000 := by omega
    have e1 : decide ((l.length : Int) = n) = false := by rw [decide_eq_false_iff_not]; omega
    have s1 := im_oWhole n l (by omega)
    rw [e1] at s1
    have s2 := im_oChoices n l n0 (by omega) (by omega)
    have hcl := chv_len n0 l
    have ih := fun x => im_grownO n n0 n1 f (l ++ [x]) (by rw [List.length_append, List.length_cons, List.length_nil]; omega)
    have gl := grvP_len n0 n1 f (by omega) l
    have gn := fun {i : Int} (h0 : 0 ≤ i) h1 => grvP_next (n := n) (f := f) (l := l) (k := i) h0 h1
    have g0 : grvP n f l 0 = [] := by simp [grvP]
    have gE : grvP n f l (chv n l).length = grv n (f + 1) l := by unfold grvP; rw [List.take_of_length_le (Nat.le_refl _)]; rfl
    have gfl := fun x => grv_len n0 n1 f (l ++ [x])
    have h64 : 5 ^ f ≤ 5 ^ 5 := Nat.pow_le_pow_right (by decide) (by omega)
    generalize grv n (f + 1) l = G at *
    generalize chv n l = C at *
    refine fnGE [3, 7] [.tmp 6] Try.func81 rfl (by decide) rfl (by kernel_rfl) (.inl rfl) (by kernel_rfl) (by simp) (by simp [Try.ntmps81]) ?_
    cbv
    ((first | refine call_iq (by kernel_rfl) rfl s1 (by cbv) ?_ | refine call_i (by kernel_rfl) rfl s1 (by cbv) ?_); cbv; ((try simp only [IfP_iff, and_true, true_and, decide_eq_true_eq, decide_eq_false_iff_not]); (try simp only [natc, getI_gi, at2_0, at2_1]); (try dsimp only [Ty.den]); (try simp only [natc] at *); (repeat' (first | apply And.intro | intro _))))
    ((try simp only [IfP_iff, and_true, true_and, decide_eq_true_eq, decide_eq_false_iff_not]); (try simp only [natc, getI_gi, at2_0, at2_1]); (try dsimp only [Ty.den]); (try simp only [natc] at *); (repeat' (first | apply And.intro | intro _)))
    all_goals (try (exfalso; simp_all; done))
    refine DrawL.seqZ [(0, [0])] ?_
    cbv
    ((first | refine call_iq (by kernel_rfl) rfl s2 (by cbv) ?_ | refine call_i (by kernel_rfl) rfl s2 (by cbv) ?_); cbv; ((try simp only [IfP_iff, and_true, true_and, decide_eq_true_eq, decide_eq_false_iff_not]); (try simp only [natc, getI_gi, at2_0, at2_1]); (try dsimp only [Ty.den]); (try simp only [natc] at *); (repeat' (first | apply And.intro | intro _))))
    refine loopXE [3, 7] (by kernel_rfl) (fun i : Int => 0 ≤ i ∧ i ≤ C.length) (fun i => [(21, .int fun _ => i), (7, .ref 1), (16, .junk), (9, .junk), (10, .junk)]) (fun i => [(1, some (.rows 22 3 .int fun _ => grvP n f l i.toNat))]) (fun i => (C.length - i).toNat) (· + 1) 0 (by omega) ?_ ?_
    · cbv
      (simp only [IfP_iff, EqU_iff, Obl_iff, and_true, true_and, inI_iff, decide_eq_true_eq, decide_eq_false_iff_not]; (try simp only [natc, getI_gi, at2_0, at2_1]); (try dsimp only [Ty.den]); try simp only [natc] at *)
      exact g0.symm
    · intro i hi
      have i0 : 0 ≤ i := hi.1
      have b1 : (grvP n f l i.toNat).length ≤ 15625 := gl _
      have b3 := fun h => gn (i := i) i0 h
      have b4 : ¬ i < (C.length : Int) → grvP n f l i.toNat = G := fun h => by rw [show i.toNat = C.length by omega]; exact gE
      have b5 := gfl (gi C i)
      have sc := go_concat l [gi C i] (by omega) (by simp) (by simp)
      have sw := im_oWith n (gi C i) l hl
      have sg := ih (gi C i)
      generalize grvP n f l i.toNat = X at *
      generalize grvP n f l (i + 1).toNat = Y at *
      generalize grv n f (l ++ [gi C i]) = Z at *
      clear ih gl gn gE gfl g0 s1 s2
      cbv
      ((try simp only [IfP_iff, and_true, true_and, decide_eq_true_eq, decide_eq_false_iff_not]); (try simp only [natc, getI_gi, at2_0, at2_1]); (try dsimp only [Ty.den]); (try simp only [natc] at *); (repeat' (first | apply And.intro | intro _)))
      all_goals (try (refine EndG.plain [0, 1] ?_
                      cbv
                      (simp only [IfP_iff, EqU_iff, Obl_iff, and_true, true_and, inI_iff, decide_eq_true_eq, decide_eq_false_iff_not]; (try simp only [natc, getI_gi, at2_0, at2_1]); (try dsimp only [Ty.den]); try simp only [natc] at *)
                      exact b4 (by assumption)))
      all_goals (try (refine DrawL.seqZ [(3, [3])] ?_
                      cbv
                      ((first | refine call_q sc (by cbv) ?_ | refine call_pure sc (by cbv) ?_); cbv; ((try simp only [IfP_iff, and_true, true_and, decide_eq_true_eq, decide_eq_false_iff_not]); (try simp only [natc, getI_gi, at2_0, at2_1]); (try dsimp only [Ty.den]); (try simp only [natc] at *); (repeat' (first | apply And.intro | intro _))))))
      all_goals (try (((first | refine call_iq (by kernel_rfl) rfl sw (by cbv) ?_ | refine call_i (by kernel_rfl) rfl sw (by cbv) ?_); cbv; ((try simp only [IfP_iff, and_true, true_and, decide_eq_true_eq, decide_eq_false_iff_not]); (try simp only [natc, getI_gi, at2_0, at2_1]); (try dsimp only [Ty.den]); (try simp only [natc] at *); (repeat' (first | apply And.intro | intro _))))))
      all_goals (try (refine call_own 5 sg (by cbv) (by exact ⟨.inl rfl, .inr ⟨rfl, rfl⟩, .inl rfl, trivial⟩) ?_
                      cbv))
      all_goals (try ((try simp only [IfP_iff, and_true, true_and, decide_eq_true_eq, decide_eq_false_iff_not]); (try simp only [natc, getI_gi, at2_0, at2_1]); (try dsimp only [Ty.den]); (try simp only [natc] at *); (repeat' (first | apply And.intro | intro _))))
      all_goals (first
        | (refine RenL.mk ⟨[0, 1, 2], ?_⟩
           cbv
           (simp only [IfP_iff, EqU_iff, Obl_iff, and_true, true_and, inI_iff, decide_eq_true_eq, decide_eq_false_iff_not]; (try simp only [natc, getI_gi, at2_0, at2_1]); (try dsimp only [Ty.den]); try simp only [natc] at *)
           exact (b3 (by assumption)).symm)
        | ((try (simp only [IfP_iff, EqU_iff, Obl_iff, and_true, true_and, inI_iff, decide_eq_true_eq, decide_eq_false_iff_not]; (try simp only [natc, getI_gi, at2_0, at2_1]); (try dsimp only [Ty.den]); try simp only [natc] at *))
           (repeat' (first | apply And.intro | intro _)) <;> first | omega | (exact (b3 (by assumption)).symm) | (have := Nat.le_trans b5 h64; omega) | trace_state)
        | trace_state)
end Go.Proofs.Ytoejmijcikehdaa.M

/- TokenSpace: the specification's permutations. -/
import Derived.Test.YtoejmijcikehdaaWjQ
import Derived.Test.YtoejmijcikehdaaViQ
import Derived.Test.YtoejmijcikehdaaWlQ
import Derived.Test.YtoejmijcikehdaaQg
namespace Go.Proofs.Ytoejmijcikehdaa.M
open Go.RowKit Abs
set_option linter.unusedSimpArgs false
set_option linter.unusedVariables false
set_option maxRecDepth 100000
set_option maxHeartbeats 4000000
def sPV (n : Int) (f : Nat) (l : List Int) (k : Int) : List (List Int) := (pref (notB l) k.toNat).flatMap fun x => grv n f (l ++ [x])
theorem sPV_next {n k : Int} {f : Nat} {l : List Int} (h0 : 0 ≤ k) : sPV n f l (k + 1) = sPV n f l k ++ if notB l k = true then grv n f (l ++ [k]) else [] := by
  unfold sPV
  rw [pref_next h0, List.flatMap_append]
  split <;> simp
theorem sPV_len {n k : Int} {f : Nat} {l : List Int} (n0 : 0 ≤ n) (n1 : n ≤ 5) (hf : f ≤ 5) (h0 : 0 ≤ k) (h1 : k ≤ n) : (sPV n f l k).length ≤ 15625 := by
  have a := flatV_len (5 ^ f) (fun x => grv n f (l ++ [x])) (pref (notB l) k.toNat) fun x _ => grv_len n0 n1 f _
  have b := pref_len (p := notB l) h0
  have h2 : (pref (notB l) k.toNat).length ≤ 5 := by omega
  have h3 : 5 ^ f ≤ 5 ^ 5 := Nat.pow_le_pow_right (by decide) hf
  have h4 := Nat.mul_le_mul h2 h3
  unfold sPV
  omega
theorem sp_all (n : Int) (n0 : 0 ≤ n) (n1 : n ≤ 5) : ∀ (f : Nat) (l : List Int) (L : List (List Int)), (l.length : Int) + f = n → L.length + 16000 * f ≤ 100000 → Spec2 Try.prog 79 [.int fun _ => n, .sl .int fun _ => l, .ref 0] [some (.rows 22 3 .int fun _ => L)] [.ref 1] [none, some (.rows 22 3 .int fun _ => L ++ grv n f l)]
  | 0, l, L, hk, hL => by
    have e2 : L ++ [l] = L ++ grv n 0 l := rfl
    have e1 : (l.length : Int) = n := by omega
    have so := sp_ownV l (by omega)
    generalize L ++ grv n 0 l = G at *
    refine fnGE [2] [.tmp 6] Try.func79 rfl (by decide) rfl (by kernel_rfl) (.inl rfl) (by kernel_rfl) (by simp) (by simp [Try.ntmps79]) ?_
    cbv
    ((try simp only [IfP_iff, and_true, true_and, decide_eq_true_eq, decide_eq_false_iff_not]); (try simp only [natc, getI_gi, at2_0, at2_1]); (try dsimp only [Ty.den]); (try simp only [natc] at *); (repeat' (first | apply And.intro | intro _)))
    all_goals (try (exact absurd e1 (by assumption)))
    refine DrawL.takeB 0 ?_
    refine DrawL.seqZ [] ?_
    cbv
    ((first | refine call_q so (by cbv) ?_ | refine call_pure so (by cbv) ?_); cbv; ((try simp only [IfP_iff, and_true, true_and, decide_eq_true_eq, decide_eq_false_iff_not]); (try simp only [natc, getI_gi, at2_0, at2_1]); (try dsimp only [Ty.den]); (try simp only [natc] at *); (repeat' (first | apply And.intro | intro _))))
    all_goals (try ((try simp only [IfP_iff, and_true, true_and, decide_eq_true_eq, decide_eq_false_iff_not]); (try simp only [natc, getI_gi, at2_0, at2_1]); (try dsimp only [Ty.den]); (try simp only [natc] at *); (repeat' (first | apply And.intro | intro _))))
    all_goals (first
      | (refine EndG.plain [0, 1] ?_
         cbv
         (simp only [IfP_iff, EqU_iff, Obl_iff, and_true, true_and, inI_iff, decide_eq_true_eq, decide_eq_false_iff_not]; (try simp only [natc, getI_gi, at2_0, at2_1]); (try dsimp only [Ty.den]); try simp only [natc] at *)
         exact e2)
      | ((try (simp only [IfP_iff, EqU_iff, Obl_iff, and_true, true_and, inI_iff, decide_eq_true_eq, decide_eq_false_iff_not]; (try simp only [natc, getI_gi, at2_0, at2_1]); (try dsimp only [Ty.den]); try simp only [natc] at *)); (repeat' (first | apply And.intro | intro _)) <;> first | omega | (simp only [List.length_cons, List.length_nil]; omega) | trace_state)
      | trace_state)
  | f + 1, l, L, hk, hL => by
    have e1 : ¬ (l.length : Int) = n := by omega
    have hl : l.length ≤ 1048576 := by omega
    have so := sp_ownV l hl
    have gE : sPV n f l n = grv n (f + 1) l := rfl
    have ih := fun (x : Int) (X : List (List Int)) (hX : X.length ≤ L.length + 15625) => sp_all n n0 n1 f (l ++ [x]) X (by rw [List.length_append, List.length_cons, List.length_nil]; omega) (by omega)
    have hln : ∀ k : Int, 0 ≤ k → k ≤ n → (sPV n f l k).length ≤ 15625 := fun k a b => sPV_len n0 n1 (by omega) a b
    have hnx : ∀ k : Int, 0 ≤ k → sPV n f l (k + 1) = sPV n f l k ++ if notB l k = true then grv n f (l ++ [k]) else [] := fun k a => sPV_next a
    have g0 : L = L ++ sPV n f l 0 := by
      have : sPV n f l 0 = [] := rfl
      rw [this, List.append_nil]
    rw [← gE]
    refine fnG [.tmp 6] Try.func79 rfl (by decide) rfl (by kernel_rfl) (.inl rfl) (by kernel_rfl) (by simp) (by simp [Try.ntmps79]) ?_
    cbv
    ((try simp only [IfP_iff, and_true, true_and, decide_eq_true_eq, decide_eq_false_iff_not]); (try simp only [natc, getI_gi, at2_0, at2_1]); (try dsimp only [Ty.den]); (try simp only [natc] at *); (repeat' (first | apply And.intro | intro _)))
    all_goals (try (exact absurd (by assumption) e1))
    refine LoopL.takeB 0 ?_
    refine loopX (by kernel_rfl) (fun k : Int => 0 ≤ k ∧ k ≤ n) (fun k => [(7, .int fun _ => k), (2, .ref 1)]) (fun k => [(1, some (.rows 22 3 .int fun _ => L ++ sPV n f l k))]) (fun k => (n - k).toNat) (· + 1) 0 (by omega) ?_ ?_
    · cbv
      (simp only [IfP_iff, EqU_iff, Obl_iff, and_true, true_and, inI_iff, decide_eq_true_eq, decide_eq_false_iff_not]; (try simp only [natc, getI_gi, at2_0, at2_1]); (try dsimp only [Ty.den]); try simp only [natc] at *)
      exact g0
    · intro k hk2
      have b1 := hln k hk2.1 hk2.2
      have b2 := hnx k hk2.1
      have b3 : (L ++ sPV n f l k).length ≤ L.length + 15625 := by rw [List.length_append]; omega
      have sg := ih k (L ++ sPV n f l k) b3
      have c1 : (!hasB l k) = true → L ++ sPV n f l k ++ grv n f (l ++ [k]) = L ++ sPV n f l (k + 1) := fun h => by rw [b2, if_pos (show notB l k = true from h), List.append_assoc]
      have c2 : (!hasB l k) = false → L ++ sPV n f l k = L ++ sPV n f l (k + 1) := fun h => by rw [b2, if_neg (by rw [show notB l k = false from h]; decide), List.append_nil]
      have c3 : ¬ k < n → L ++ sPV n f l k = L ++ sPV n f l n := fun h => by rw [show k = n by omega]
      have sh := sp_has l k hl
      generalize L ++ sPV n f l k = X at *
      generalize L ++ sPV n f l (k + 1) = Y at *
      generalize L ++ sPV n f l n = W at *
      generalize grv n f (l ++ [k]) = Z at *
      clear ih hln hnx g0 b2 gE
      cbv
      ((try simp only [IfP_iff, and_true, true_and, decide_eq_true_eq, decide_eq_false_iff_not]); (try simp only [natc, getI_gi, at2_0, at2_1]); (try dsimp only [Ty.den]); (try simp only [natc] at *); (repeat' (first | apply And.intro | intro _)))
      all_goals (repeat' (first | ((first | refine call_q sh (by cbv) ?_ | refine call_pure sh (by cbv) ?_); cbv; ((try simp only [IfP_iff, and_true, true_and, decide_eq_true_eq, decide_eq_false_iff_not]); (try simp only [natc, getI_gi, at2_0, at2_1]); (try dsimp only [Ty.den]); (try simp only [natc] at *); (repeat' (first | apply And.intro | intro _)))) | ((first | refine call_q so (by cbv) ?_ | refine call_pure so (by cbv) ?_); cbv; ((try simp only [IfP_iff, and_true, true_and, decide_eq_true_eq, decide_eq_false_iff_not]); (try simp only [natc, getI_gi, at2_0, at2_1]); (try dsimp only [Ty.den]); (try simp only [natc] at *); (repeat' (first | apply And.intro | intro _))))))
      all_goals (try ((try simp only [IfP_iff, and_true, true_and, decide_eq_true_eq, decide_eq_false_iff_not]); (try simp only [natc, getI_gi, at2_0, at2_1]); (try dsimp only [Ty.den]); (try simp only [natc] at *); (repeat' (first | apply And.intro | intro _))))
      all_goals (try (show Obl _; (simp only [IfP_iff, EqU_iff, Obl_iff, and_true, true_and, inI_iff, decide_eq_true_eq, decide_eq_false_iff_not]; (try simp only [natc, getI_gi, at2_0, at2_1]); (try dsimp only [Ty.den]); try simp only [natc] at *); ((repeat' (first | apply And.intro | intro _)) <;> first | omega | (simp only [List.length_cons, List.length_nil]; omega))))
      all_goals (try (refine call_own 1 sg (by exact ⟨rfl, rfl, trivial⟩) (by exact ⟨.inl rfl, .inl rfl, .inr ⟨rfl, rfl⟩, trivial⟩) ?_
                      cbv))
      all_goals (try ((try simp only [IfP_iff, and_true, true_and, decide_eq_true_eq, decide_eq_false_iff_not]); (try simp only [natc, getI_gi, at2_0, at2_1]); (try dsimp only [Ty.den]); (try simp only [natc] at *); (repeat' (first | apply And.intro | intro _))))
      all_goals (try (show Obl _; (simp only [IfP_iff, EqU_iff, Obl_iff, and_true, true_and, inI_iff, decide_eq_true_eq, decide_eq_false_iff_not]; (try simp only [natc, getI_gi, at2_0, at2_1]); (try dsimp only [Ty.den]); try simp only [natc] at *); ((repeat' (first | apply And.intro | intro _)) <;> first | omega | (simp only [List.length_cons, List.length_nil]; omega))))
      · refine RenL.mk ⟨[0, 4], ?_⟩
        cbv
        (simp only [IfP_iff, EqU_iff, Obl_iff, and_true, true_and, inI_iff, decide_eq_true_eq, decide_eq_false_iff_not]; (try simp only [natc, getI_gi, at2_0, at2_1]); (try dsimp only [Ty.den]); try simp only [natc] at *)
        exact c1 (by assumption)
      · refine RenL.mk ⟨[0, 1], ?_⟩
        cbv
        (simp only [IfP_iff, EqU_iff, Obl_iff, and_true, true_and, inI_iff, decide_eq_true_eq, decide_eq_false_iff_not]; (try simp only [natc, getI_gi, at2_0, at2_1]); (try dsimp only [Ty.den]); try simp only [natc] at *)
        exact c2 (by assumption)
      · refine EndG.plain [0, 1] ?_
        cbv
        (simp only [IfP_iff, EqU_iff, Obl_iff, and_true, true_and, inI_iff, decide_eq_true_eq, decide_eq_false_iff_not]; (try simp only [natc, getI_gi, at2_0, at2_1]); (try dsimp only [Ty.den]); try simp only [natc] at *)
        exact c3 (by assumption)
end Go.Proofs.Ytoejmijcikehdaa.M

/- Matchings: the program's test of a list, of any numbers of edges. -/
import Derived.Test.YtjkmgdhndbdhoaaJbQ
import Derived.Test.YtjkmgdhndbdhoaaQg
namespace Go.Proofs.Ytjkmgdhndbdhoaa.M
open Go.RowKit Abs
set_option linter.unusedSimpArgs false
set_option linter.unusedVariables false
set_option maxRecDepth 100000
set_option maxHeartbeats 4000000
theorem mem_allN {l : List (Int × Int)} {x : Int} : x ∈ allN l ↔ 0 ≤ x ∧ x < (l.length : Int) := by
  unfold allN
  rw [pref_mem]
  simp
theorem allN_len (l : List (Int × Int)) : (allN l).length ≤ l.length := by
  have := pref_len (p := fun _ : Int => true) (k := (l.length : Int)) (by omega)
  rw [show ((l.length : Int)).toNat = l.length by omega] at this
  unfold allN
  omega
theorem im_fittingE (n : Int) (l : List (Int × Int)) (s : List Int) (hl : l.length ≤ 1048576) (hs : s.length ≤ 1048576) (hx : ∀ x ∈ s, 0 ≤ x ∧ x < (l.length : Int)) : Spec2 Try.prog 81 [.ifr 54 fun _ => ofBound [.cells [.int fun _ => n, .sl (.pr .int .int) fun _ => l]], .sl .int fun _ => s] [] [.ref 0] [some (.row 3 .int fun _ => fitL (allN l) (edgeX l) s)] := by
  have hdl := allN_len l
  have hd : ∀ x ∈ allN l, 0 ≤ x ∧ x < (l.length : Int) := fun x h => mem_allN.1 h
  refine fnS [0] [4] Try.func81 rfl (by decide) rfl (by decide) (by kernel_rfl) rfl (by simp [Try.ntmps81]) ?_
  cbv
  refine scope0 0 rfl (by kernel_rfl) (by kernel_rfl) ?_
  cbv
  repeat' (first | ((first | refine call_iq (by kernel_rfl) rfl (im_numbersE n l hl) (by cbv) ?_ | refine call_i (by kernel_rfl) rfl (im_numbersE n l hl) (by cbv) ?_); cbv; ((try simp only [IfP_iff, and_true, true_and, decide_eq_true_eq, decide_eq_false_iff_not]); (try simp only [natc, getI_gi, at2_0, at2_1]); (try dsimp only [Ty.den]); (try simp only [natc] at *); (repeat' (first | apply And.intro | intro _)))))
  all_goals (try (simp only [IfP_iff, EqU_iff, Obl_iff, and_true, true_and, inI_iff, decide_eq_true_eq, decide_eq_false_iff_not]; (try simp only [natc, getI_gi, at2_0, at2_1]); (try dsimp only [Ty.den]); try simp only [natc] at *))
  refine loopP (by kernel_rfl) (fun k : Int => 0 ≤ k ∧ k ≤ (allN l).length) (fun k => [(14, .int fun _ => k), (5, .ref 0), (10, .junk), (7, .junk)]) (fun k => [(0, some (.row 3 .int fun _ => fitL ((allN l).take k.toNat) (edgeX l) s))]) (fun k => ((allN l).length - k).toNat) (· + 1) 0 (by omega) ?_ ?_
  · cbv
    (simp only [IfP_iff, EqU_iff, Obl_iff, and_true, true_and, inI_iff, decide_eq_true_eq, decide_eq_false_iff_not]; (try simp only [natc, getI_gi, at2_0, at2_1]); (try dsimp only [Ty.den]); try simp only [natc] at *)
    rfl
  · intro k hk
    have h1 := fun h => fit_next (nums := (allN l)) (l := s) (ex := edgeX l) (k := k) hk.1 h
    have h2 : (fitL ((allN l).take k.toNat) (edgeX l) s).length ≤ 1048576 := Nat.le_trans (fit_len _ _ _) (by rw [List.length_take]; omega)
    have h3 : ¬ k < ((allN l).length : Int) → fitL ((allN l).take k.toNat) (edgeX l) s = fitL (allN l) (edgeX l) s := fun h => by rw [List.take_of_length_le (by omega)]
    have h4 : k < ((allN l).length : Int) → 0 ≤ gi (allN l) k ∧ gi (allN l) k < (l.length : Int) := fun h => hd _ (gi_mem hk.1 h)
    generalize hq : s.all (fun y => !(decide (y = gi (allN l) k) || edgeX l y (gi (allN l) k))) = q at h1
    cbv
    ((try simp only [IfP_iff, and_true, true_and, decide_eq_true_eq, decide_eq_false_iff_not]); (try simp only [natc, getI_gi, at2_0, at2_1]); (try dsimp only [Ty.den]); (try simp only [natc] at *); (repeat' (first | apply And.intro | intro _)))
    all_goals (try ((simp only [IfP_iff, EqU_iff, Obl_iff, and_true, true_and, inI_iff, decide_eq_true_eq, decide_eq_false_iff_not]; (try simp only [natc, getI_gi, at2_0, at2_1]); (try dsimp only [Ty.den]); try simp only [natc] at *); done))
    all_goals (try ((simp only [IfP_iff, EqU_iff, Obl_iff, and_true, true_and, inI_iff, decide_eq_true_eq, decide_eq_false_iff_not]; (try simp only [natc, getI_gi, at2_0, at2_1]); (try dsimp only [Ty.den]); try simp only [natc] at *); (repeat' (first | apply And.intro | intro _)) <;> first | omega | exact h3 (by assumption)))
    have hk2 : k < ((allN l).length : Int) := by assumption
    have i1 := h1 hk2
    have i4 := h4 hk2
    generalize gi (allN l) k = x at *
    have f1 : q = true → fitL ((allN l).take k.toNat) (edgeX l) s ++ [x] = fitL ((allN l).take (k + 1).toNat) (edgeX l) s := fun h => by rw [i1, if_pos h]
    have f2 : q = false → fitL ((allN l).take k.toNat) (edgeX l) s = fitL ((allN l).take (k + 1).toNat) (edgeX l) s := fun h => by rw [i1, if_neg (by rw [h]; decide), List.append_nil]
    clear h1 h3 h4 i1 hd
    refine loopP (by kernel_rfl) (fun j : Int => 0 ≤ j ∧ j ≤ s.length ∧ offB (edgeX l) s x j.toNat = true) (fun j => [(20, .int fun _ => j)]) (fun j => []) (fun j => (s.length - j).toNat) (· + 1) 0 (by simp [offB]) ?_ ?_
    · cbv
      (simp only [IfP_iff, EqU_iff, Obl_iff, and_true, true_and, inI_iff, decide_eq_true_eq, decide_eq_false_iff_not]; (try simp only [natc, getI_gi, at2_0, at2_1]); (try dsimp only [Ty.den]); try simp only [natc] at *)
    · intro j hj
      have g0 := hj.1
      have g1 := hj.2.1
      have g2 : j < (s.length : Int) → gi s j ∈ s := fun h => gi_mem hj.1 h
      have g3 : j < (s.length : Int) → 0 ≤ gi s j ∧ gi s j < (l.length : Int) := fun h => hx _ (g2 h)
      have g4 : j < (s.length : Int) → gi s j = x → q = false := fun h e => by
        rw [← hq, List.all_eq_false]
        exact ⟨_, g2 h, by simp [e]⟩
      have g5 : j < (s.length : Int) → edgeX l (gi s j) x = true → q = false := fun h e => by
        rw [← hq, List.all_eq_false]
        exact ⟨_, g2 h, by simp [e]⟩
      have g6 : j < (s.length : Int) → ¬ gi s j = x → edgeX l (gi s j) x = false → offB (edgeX l) s x (j + 1).toNat = true := fun h e1 e2 => by
        have h7 := hj.2.2
        unfold offB at h7 ⊢
        rw [take_gi hj.1 h, List.all_append, h7]
        simp [e1, e2]
      have g7 : ¬ j < (s.length : Int) → q = true := fun h => by
        have h7 := hj.2.2
        unfold offB at h7
        rw [List.take_of_length_le (by omega)] at h7
        rw [← hq]
        exact h7
      clear hq hj hx g2
      cbv
      ((try simp only [IfP_iff, and_true, true_and, decide_eq_true_eq, decide_eq_false_iff_not]); (try simp only [natc, getI_gi, at2_0, at2_1]); (try dsimp only [Ty.den]); (try simp only [natc] at *); (repeat' (first | apply And.intro | intro _)))
      all_goals (repeat' (first | ((first | refine call_iq (by kernel_rfl) rfl (im_excludesE n l (gi s j) x hl (g3 (by assumption)).1 (g3 (by assumption)).2 i4.1 i4.2) (by cbv) ?_ | refine call_i (by kernel_rfl) rfl (im_excludesE n l (gi s j) x hl (g3 (by assumption)).1 (g3 (by assumption)).2 i4.1 i4.2) (by cbv) ?_); cbv; ((try simp only [IfP_iff, and_true, true_and, decide_eq_true_eq, decide_eq_false_iff_not]); (try simp only [natc, getI_gi, at2_0, at2_1]); (try dsimp only [Ty.den]); (try simp only [natc] at *); (repeat' (first | apply And.intro | intro _))))))
      all_goals (try ((try simp only [IfP_iff, and_true, true_and, decide_eq_true_eq, decide_eq_false_iff_not]); (try simp only [natc, getI_gi, at2_0, at2_1]); (try dsimp only [Ty.den]); (try simp only [natc] at *); (repeat' (first | apply And.intro | intro _))))
      all_goals (try (simp only [IfP_iff, EqU_iff, Obl_iff, and_true, true_and, inI_iff, decide_eq_true_eq, decide_eq_false_iff_not]; (try simp only [natc, getI_gi, at2_0, at2_1]); (try dsimp only [Ty.den]); try simp only [natc] at *))
      all_goals ((repeat' (first | apply And.intro | intro _)) <;> first | omega | (exact g6 (by assumption) (by assumption) (by assumption)) | (exact f1 (g7 (by assumption))) | (exact f2 (g4 (by assumption) (by assumption))) | (exact f2 (g5 (by assumption) (by assumption))) | (rw [List.length_cons, List.length_nil]; omega) | trace_state)
theorem fit_inE {l : List (Int × Int)} {s : List Int} {k : Int} (k0 : 0 ≤ k) (k1 : k ≤ s.length) (h : ∀ j : Int, 0 ≤ j → j < k → hasB (allN l) (gi s j) = true) : ∀ x ∈ subL s 0 k, 0 ≤ x ∧ x < (l.length : Int) := fun x hx => by
  rw [subL_take] at hx
  obtain ⟨j, j0, j1, e⟩ := mem_at hx
  rw [List.length_take] at j1
  have h1 := h j j0 (by omega)
  have e1 : gi s j = x := by
    rw [← e]
    show gi s j = gi (s.take k.toNat) j
    unfold gi
    rw [List.getD_eq_getElem?_getD, List.getD_eq_getElem?_getD, List.getElem?_take, if_pos (by omega)]
  rw [e1] at h1
  exact mem_allN.1 (hasB_iff.1 h1)
end Go.Proofs.Ytjkmgdhndbdhoaa.M

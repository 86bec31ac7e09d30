/- What fits to a list: the program's search, and its test; triangulations on both sides. -/
import Derived.Test.YtlfdimhnielleaaQhVPolygonSpace
import Derived.Test.YtlfdimhnielleaaSjQVPolygonSpace
import Derived.Test.YtlfdimhnielleaaQgVPolygonSpace
namespace Go.Proofs.Ytlfdimhnielleaa.M
open Go.RowKit Abs
set_option linter.unusedSimpArgs false
set_option linter.unusedVariables false
set_option maxRecDepth 100000
set_option maxHeartbeats 4000000
theorem diag_in {n : Int} (h0 : 3 ≤ n) (h1 : n ≤ 8) : ∀ x ∈ diagL n, 0 ≤ x ∧ x < 100 := by
  have h : n = 3 ∨ n = 4 ∨ n = 5 ∨ n = 6 ∨ n = 7 ∨ n = 8 := by omega
  rcases h with rfl | rfl | rfl | rfl | rfl | rfl <;> decide
theorem fit_next {nums l : List Int} {ex : Int → Int → Bool} {k : Int} (h0 : 0 ≤ k) (h1 : k < (nums.length : Int)) : fitL (nums.take (k + 1).toNat) ex l = fitL (nums.take k.toNat) ex l ++ if l.all (fun y => !(decide (y = gi nums k) || ex y (gi nums k))) = true then [gi nums k] else [] := by
  unfold fitL
  rw [take_gi h0 h1, List.filter_append]
  by_cases h : l.all (fun y => !(decide (y = gi nums k) || ex y (gi nums k))) = true
  · rw [if_pos h, List.filter_cons, if_pos h]; rfl
  · rw [if_neg h, List.filter_cons, if_neg h]; rfl
theorem fit_len (nums l : List Int) (ex : Int → Int → Bool) : (fitL nums ex l).length ≤ nums.length := List.length_filter_le _ _
/-- None of the first k numbers excludes x. -/
def offB (ex : Int → Int → Bool) (l : List Int) (x : Int) (k : Nat) : Bool := (l.take k).all fun y => !(decide (y = x) || ex y x)
theorem im_fitting (n : Int) (l : List Int) (n0 : 3 ≤ n) (n1 : n ≤ 8) (hl : l.length ≤ 1048576) (hx : ∀ x ∈ l, 0 ≤ x ∧ x < 100) : Spec2 Try.prog 127 [.ifr 59 fun _ => ofBound [.cells [.int fun _ => n]], .sl .int fun _ => l] [] [.ref 0] [some (.row 3 .int fun _ => fitL (diagL n) crossB l)] := by
  have hd := diag_in n0 n1
  have hdl := diag_len (n := n) (by omega) n1
  refine fnS [0] [4] Try.func127 rfl (by decide) rfl (by decide) (by kernel_rfl) rfl (by simp [Try.ntmps127]) ?_
  cbv
  refine scope0 0 rfl (by kernel_rfl) (by kernel_rfl) ?_
  cbv
  repeat' (first | ((first | refine call_iq (by kernel_rfl) rfl (im_numbers n (by omega) n1) (by cbv) ?_ | refine call_i (by kernel_rfl) rfl (im_numbers n (by omega) n1) (by cbv) ?_); cbv; ((try simp only [IfP_iff, and_true, true_and, decide_eq_true_eq, decide_eq_false_iff_not]); (try simp only [natc, getI_gi, at2_0, at2_1]); (try dsimp only [Ty.den]); (try simp only [natc] at *); (repeat' (first | apply And.intro | intro _)))))
  all_goals (try (simp only [IfP_iff, EqU_iff, Obl_iff, and_true, true_and, inI_iff, decide_eq_true_eq, decide_eq_false_iff_not]; (try simp only [natc, getI_gi, at2_0, at2_1]); (try dsimp only [Ty.den]); try simp only [natc] at *))
  refine loopP (by kernel_rfl) (fun k : Int => 0 ≤ k ∧ k ≤ (diagL n).length) (fun k => [(14, .int fun _ => k), (5, .ref 0), (10, .junk), (7, .junk)]) (fun k => [(0, some (.row 3 .int fun _ => fitL ((diagL n).take k.toNat) crossB l))]) (fun k => ((diagL n).length - k).toNat) (· + 1) 0 (by omega) ?_ ?_
  · cbv
    (simp only [IfP_iff, EqU_iff, Obl_iff, and_true, true_and, inI_iff, decide_eq_true_eq, decide_eq_false_iff_not]; (try simp only [natc, getI_gi, at2_0, at2_1]); (try dsimp only [Ty.den]); try simp only [natc] at *)
    rfl
  · intro k hk
    have h1 := fun h => fit_next (nums := diagL n) (l := l) (ex := crossB) (k := k) hk.1 h
    have h2 : (fitL ((diagL n).take k.toNat) crossB l).length ≤ 64 := Nat.le_trans (fit_len _ _ _) (by rw [List.length_take]; omega)
    have h3 : ¬ k < ((diagL n).length : Int) → fitL ((diagL n).take k.toNat) crossB l = fitL (diagL n) crossB l := fun h => by rw [List.take_of_length_le (by omega)]
    have h4 : k < ((diagL n).length : Int) → 0 ≤ gi (diagL n) k ∧ gi (diagL n) k < 100 := fun h => hd _ (gi_mem hk.1 h)
    generalize hq : l.all (fun y => !(decide (y = gi (diagL n) k) || crossB y (gi (diagL n) k))) = q at h1
    cbv
    ((try simp only [IfP_iff, and_true, true_and, decide_eq_true_eq, decide_eq_false_iff_not]); (try simp only [natc, getI_gi, at2_0, at2_1]); (try dsimp only [Ty.den]); (try simp only [natc] at *); (repeat' (first | apply And.intro | intro _)))
    all_goals (try ((simp only [IfP_iff, EqU_iff, Obl_iff, and_true, true_and, inI_iff, decide_eq_true_eq, decide_eq_false_iff_not]; (try simp only [natc, getI_gi, at2_0, at2_1]); (try dsimp only [Ty.den]); try simp only [natc] at *); done))
    all_goals (try ((simp only [IfP_iff, EqU_iff, Obl_iff, and_true, true_and, inI_iff, decide_eq_true_eq, decide_eq_false_iff_not]; (try simp only [natc, getI_gi, at2_0, at2_1]); (try dsimp only [Ty.den]); try simp only [natc] at *); (repeat' (first | apply And.intro | intro _)) <;> first | omega | exact h3 (by assumption)))
    have hk2 : k < ((diagL n).length : Int) := by assumption
    have i1 := h1 hk2
    have i4 := h4 hk2
    generalize gi (diagL n) k = x at *
    have f1 : q = true → fitL ((diagL n).take k.toNat) crossB l ++ [x] = fitL ((diagL n).take (k + 1).toNat) crossB l := fun h => by rw [i1, if_pos h]
    have f2 : q = false → fitL ((diagL n).take k.toNat) crossB l = fitL ((diagL n).take (k + 1).toNat) crossB l := fun h => by rw [i1, if_neg (by rw [h]; decide), List.append_nil]
    clear h1 h3 h4 i1 hd
    refine loopP (by kernel_rfl) (fun j : Int => 0 ≤ j ∧ j ≤ l.length ∧ offB crossB l x j.toNat = true) (fun j => [(20, .int fun _ => j)]) (fun j => []) (fun j => (l.length - j).toNat) (· + 1) 0 (by simp [offB]) ?_ ?_
    · cbv
      (simp only [IfP_iff, EqU_iff, Obl_iff, and_true, true_and, inI_iff, decide_eq_true_eq, decide_eq_false_iff_not]; (try simp only [natc, getI_gi, at2_0, at2_1]); (try dsimp only [Ty.den]); try simp only [natc] at *)
    · intro j hj
      have g0 := hj.1
      have g1 := hj.2.1
      have g2 : j < (l.length : Int) → gi l j ∈ l := fun h => gi_mem hj.1 h
      have g3 : j < (l.length : Int) → 0 ≤ gi l j ∧ gi l j < 100 := fun h => hx _ (g2 h)
      have g4 : j < (l.length : Int) → gi l j = x → q = false := fun h e => by
        rw [← hq, List.all_eq_false]
        exact ⟨_, g2 h, by simp [e]⟩
      have g5 : j < (l.length : Int) → crossB (gi l j) x = true → q = false := fun h e => by
        rw [← hq, List.all_eq_false]
        exact ⟨_, g2 h, by simp [e]⟩
      have g6 : j < (l.length : Int) → ¬ gi l j = x → crossB (gi l j) x = false → offB crossB l x (j + 1).toNat = true := fun h e1 e2 => by
        have h7 := hj.2.2
        unfold offB at h7 ⊢
        rw [take_gi hj.1 h, List.all_append, h7]
        simp [e1, e2]
      have g7 : ¬ j < (l.length : Int) → q = true := fun h => by
        have h7 := hj.2.2
        unfold offB at h7
        rw [List.take_of_length_le (by omega)] at h7
        rw [← hq]
        exact h7
      clear hq hj hx g2
      cbv
      ((try simp only [IfP_iff, and_true, true_and, decide_eq_true_eq, decide_eq_false_iff_not]); (try simp only [natc, getI_gi, at2_0, at2_1]); (try dsimp only [Ty.den]); (try simp only [natc] at *); (repeat' (first | apply And.intro | intro _)))
      all_goals (repeat' (first | ((first | refine call_iq (by kernel_rfl) rfl (im_excludes n (gi l j) x (g3 (by assumption)).1 (g3 (by assumption)).2 i4.1 i4.2) (by cbv) ?_ | refine call_i (by kernel_rfl) rfl (im_excludes n (gi l j) x (g3 (by assumption)).1 (g3 (by assumption)).2 i4.1 i4.2) (by cbv) ?_); cbv; ((try simp only [IfP_iff, and_true, true_and, decide_eq_true_eq, decide_eq_false_iff_not]); (try simp only [natc, getI_gi, at2_0, at2_1]); (try dsimp only [Ty.den]); (try simp only [natc] at *); (repeat' (first | apply And.intro | intro _))))))
      all_goals (try ((try simp only [IfP_iff, and_true, true_and, decide_eq_true_eq, decide_eq_false_iff_not]); (try simp only [natc, getI_gi, at2_0, at2_1]); (try dsimp only [Ty.den]); (try simp only [natc] at *); (repeat' (first | apply And.intro | intro _))))
      all_goals (try (simp only [IfP_iff, EqU_iff, Obl_iff, and_true, true_and, inI_iff, decide_eq_true_eq, decide_eq_false_iff_not]; (try simp only [natc, getI_gi, at2_0, at2_1]); (try dsimp only [Ty.den]); try simp only [natc] at *))
      all_goals ((repeat' (first | apply And.intro | intro _)) <;> first | omega | (exact g6 (by assumption) (by assumption) (by assumption)) | (exact f1 (g7 (by assumption))) | (exact f2 (g4 (by assumption) (by assumption))) | (exact f2 (g5 (by assumption) (by assumption))) | (rw [List.length_cons, List.length_nil]; omega) | trace_state)
end Go.Proofs.Ytlfdimhnielleaa.M

/- The lowest and the highest of a solution: the specification. -/
import Derived.Test.YtcgeedklfejhbaaAyQ
import Derived.Test.YtcgeedklfejhbaaLpQ
import Derived.Test.YtcgeedklfejhbaaQc
namespace Go.Proofs.Ytcgeedklfejhbaa.M
open Go.RowKit Abs
set_option linter.unusedSimpArgs false
set_option linter.unusedVariables false
set_option maxRecDepth 100000
set_option maxHeartbeats 4000000
theorem sp_down (n num : Int) (L : List (List Int)) (r : List Int) (hL : L.length ≤ 1048576) (hm : ∀ c ∈ L, c.length ≤ 1048576) (hx : ∀ c ∈ L, ∀ x ∈ c, inI x) (hr : r.length ≤ 1048576) (hb : num = 0 ∨ num = 1) (hf : formOk n L = true) (ha : asgB n r = true) : Spec2 Try.prog 76 [.agg (.pr .int (.sl (.sl .int))) fun _ => (n, L), .sl .int fun _ => r, .int fun _ => num] [] [.ref 0] [some (.row 3 .int fun _ => lowR L num n r)] := by
  obtain ⟨f1, f2, f3⟩ := form_lits hf
  refine fnS [1] [6] Try.func76 rfl (by decide) rfl (by decide) (by kernel_rfl) rfl (by simp [Try.ntmps76]) ?_
  cbv
  repeat' (first | ((first | refine call_q (sp_ownA r hr) (by cbv) ?_ | refine call_pure (sp_ownA r hr) (by cbv) ?_); cbv; ((try simp only [IfP_iff, and_true, true_and, decide_eq_true_eq, decide_eq_false_iff_not]); (try simp only [natc, getI_gi, at2_0, at2_1]); (try dsimp only [Ty.den]); (try simp only [natc] at *); (repeat' (first | apply And.intro | intro _)))))
  all_goals (try (simp only [IfP_iff, EqU_iff, Obl_iff, and_true, true_and, inI_iff, decide_eq_true_eq, decide_eq_false_iff_not]; (try simp only [natc, getI_gi, at2_0, at2_1]); (try dsimp only [Ty.den]); try simp only [natc] at *))
  refine loopX (by kernel_rfl) (fun x : Nat × List Int => DownI L num n (lowR L num n r) x) (fun x => [(7, .ref 1), (10, .junk)]) (fun x => [(1, some (.row 3 .int fun _ => x.2))]) (fun x => x.1) (stepR L num n) (r.length, r) (down_start ha) ?_ ?_
  · cbv
    (simp only [IfP_iff, EqU_iff, Obl_iff, and_true, true_and, inI_iff, decide_eq_true_eq, decide_eq_false_iff_not]; (try simp only [natc, getI_gi, at2_0, at2_1]); (try dsimp only [Ty.den]); try simp only [natc] at *)
  · intro x hI
    have g1 := asgB_in hI.asg
    have g2 : x.2.length ≤ 1048576 := by omega
    have g3 := hI.res
    have g4 : ∀ v : Int, 0 ≤ v → v < n → inI (1 - gi x.2 v) := fun v a b => by
      have := g1.2.2 _ (gi_mem (l := x.2) a (by omega))
      unfold inI; omega
    have g5 : ∀ v : Int, (flipV x.2 v).length = x.2.length := fun v => flipV_len x.2 v
    have g6 : ∀ v : Int, ∀ c ∈ L, litN (flipV x.2 v).length c := fun v c hc => by
      rw [g5, g1.1]
      exact f3 c hc
    have g7 : nxtV L num n x.2 = -1 → x.2 = lowR L num n r := fun h => by rw [g3, down_none h]
    have g8 : ∀ v : Int, 0 ≤ v → v < n → gi x.2 v = num → nxtV L num n x.2 = v → DownI L num n (lowR L num n r) (stepR L num n x) ∧ (stepR L num n x).1 < x.1 ∧ (stepR L num n x).2 = flipV x.2 v := fun v a b c d => down_step hI hb a b c d
    clear g3
    cbv
    ((try simp only [IfP_iff, and_true, true_and, decide_eq_true_eq, decide_eq_false_iff_not]); (try simp only [natc, getI_gi, at2_0, at2_1]); (try dsimp only [Ty.den]); (try simp only [natc] at *); (repeat' (first | apply And.intro | intro _)))
    refine loopP (by kernel_rfl) (fun v : Int => 0 ≤ v ∧ v ≤ n ∧ ∀ j : Int, 0 ≤ j → j < v → canB L num x.2 j = false) (fun v => [(8, .int fun _ => v)]) (fun _ => []) (fun v => (n - v).toNat) (· + 1) 0 (by grind) ?_ ?_
    · cbv
      (simp only [IfP_iff, EqU_iff, Obl_iff, and_true, true_and, inI_iff, decide_eq_true_eq, decide_eq_false_iff_not]; (try simp only [natc, getI_gi, at2_0, at2_1]); (try dsimp only [Ty.den]); try simp only [natc] at *)
    · intro v hv
      have i1 := g4 v hv.1
      have i2 := g6 v
      have i3 := g5 v
      have i4 : canB L num x.2 v = (decide (gi x.2 v = num) && solB L (flipV x.2 v)) := rfl
      have i5 := upTo (p := fun j => !canB L num x.2 j) (k := v) (by simpa using hv.2.2)
      simp only [Bool.not_eq_true'] at i5
      have i6 : v < n → canB L num x.2 v = true → nxtV L num n x.2 = v := fun a b => nxt_hit hv.1 a b hv.2.2
      have i7 : ¬ v < n → nxtV L num n x.2 = -1 := fun a => nxt_none fun j b c => hv.2.2 j b (by omega)
      have i8 := g8 v hv.1
      clear g4 g6 g8 g5
      cbv
      ((try simp only [IfP_iff, and_true, true_and, decide_eq_true_eq, decide_eq_false_iff_not]); (try simp only [natc, getI_gi, at2_0, at2_1]); (try dsimp only [Ty.den]); (try simp only [natc] at *); (repeat' (first | apply And.intro | intro _)))
      all_goals (repeat' (first | ((first | refine call_q (sp_flip x.2 v g2 hv.1 (by omega) (i1 (by assumption))) (by cbv) ?_ | refine call_pure (sp_flip x.2 v g2 hv.1 (by omega) (i1 (by assumption))) (by cbv) ?_); cbv; ((try simp only [IfP_iff, and_true, true_and, decide_eq_true_eq, decide_eq_false_iff_not]); (try simp only [natc, getI_gi, at2_0, at2_1]); (try dsimp only [Ty.den]); (try simp only [natc] at *); (repeat' (first | apply And.intro | intro _)))) | ((first | refine call_q (sp_solves n L (flipV x.2 v) hL hm (by omega) hx i2) (by cbv) ?_ | refine call_pure (sp_solves n L (flipV x.2 v) hL hm (by omega) hx i2) (by cbv) ?_); cbv; ((try simp only [IfP_iff, and_true, true_and, decide_eq_true_eq, decide_eq_false_iff_not]); (try simp only [natc, getI_gi, at2_0, at2_1]); (try dsimp only [Ty.den]); (try simp only [natc] at *); (repeat' (first | apply And.intro | intro _))))))
      all_goals (try (simp only [IfP_iff, EqU_iff, Obl_iff, and_true, true_and, inI_iff, decide_eq_true_eq, decide_eq_false_iff_not]; (try simp only [natc, getI_gi, at2_0, at2_1]); (try dsimp only [Ty.den]); try simp only [natc] at *))
      all_goals (try clear hm hx i2)
      all_goals (first
        | ((repeat' (first | apply And.intro | intro _)) <;> first | omega | (simp only [List.length_append, List.length_cons, List.length_nil]; omega) | grind)
        | (refine RenL.mk ⟨[0, 2], ?_⟩
           cbv
           (simp only [IfP_iff, EqU_iff, Obl_iff, and_true, true_and, inI_iff, decide_eq_true_eq, decide_eq_false_iff_not]; (try simp only [natc, getI_gi, at2_0, at2_1]); (try dsimp only [Ty.den]); try simp only [natc] at *)
           grind)
        | (trace_state; fail))
theorem low_len {L : List (List Int)} {num n : Int} : ∀ (k : Nat) (r : List Int), (downF L num n k r).length = r.length
  | 0, _ => rfl
  | k + 1, r => by
    show (if nxtV L num n r < 0 then r else downF L num n k (flipV r (nxtV L num n r))).length = _
    split
    · rfl
    · rw [low_len k, flipV_len]
def lowO (num n : Int) (L : List (List Int)) (r : List Int) : List Int := if okS n L r = true then lowR L num n r else []
theorem lowO_len (num n : Int) (L : List (List Int)) (r : List Int) : (lowO num n L r).length ≤ 1048576 := by
  unfold lowO
  split
  · rename_i h
    obtain ⟨_, _, _, a, b, c, _⟩ := okS_in h
    unfold lowR
    rw [low_len]
    omega
  · simp
theorem sp_lowest (n : Int) (L : List (List Int)) (r : List Int) (hL : L.length ≤ 1048576) (hm : ∀ c ∈ L, c.length ≤ 1048576) (hx : ∀ c ∈ L, ∀ x ∈ c, inI x) (hr : r.length ≤ 1048576) : Spec2 Try.prog 37 [.agg (.pr .int (.sl (.sl .int))) fun _ => (n, L), .sl .int fun _ => r] [] [.ref 0, .bool fun _ => okS n L r] [some (.row 3 .int fun _ => lowO 1 n L r)] := by
  have h9 : lowO 1 n L r = if okS n L r = true then lowR L 1 n r else [] := rfl
  cases hc : okS n L r with
  | false =>
    rw [hc, if_neg (by decide)] at h9
    refine fnS [1] [4, 5] Try.func37 rfl (by decide) rfl (by decide) (by kernel_rfl) rfl (by simp [Try.ntmps37]) ?_
    cbv
    ((try simp only [IfP_iff, and_true, true_and, decide_eq_true_eq, decide_eq_false_iff_not]); (try simp only [natc, getI_gi, at2_0, at2_1]); (try dsimp only [Ty.den]); (try simp only [natc] at *); (repeat' (first | apply And.intro | intro _)))
    all_goals (repeat' (first | ((first | refine call_q (sp_two n L r hL hm hx hr) (by cbv) ?_ | refine call_pure (sp_two n L r hL hm hx hr) (by cbv) ?_); cbv; ((try simp only [IfP_iff, and_true, true_and, decide_eq_true_eq, decide_eq_false_iff_not]); (try simp only [natc, getI_gi, at2_0, at2_1]); (try dsimp only [Ty.den]); (try simp only [natc] at *); (repeat' (first | apply And.intro | intro _))))))
    all_goals (try (simp only [IfP_iff, EqU_iff, Obl_iff, and_true, true_and, inI_iff, decide_eq_true_eq, decide_eq_false_iff_not]; (try simp only [natc, getI_gi, at2_0, at2_1]); (try dsimp only [Ty.den]); try simp only [natc] at *))
    all_goals (first | exact h9.symm | exact hc.symm | rfl | exact ⟨h9.symm, hc.symm⟩ | (exact absurd (by assumption : (!okS n L r) = false) (by rw [hc]; decide)) | (trace_state; fail))
  | true =>
    obtain ⟨k1, k2, _⟩ := okS_in hc
    rw [hc, if_pos rfl] at h9
    refine fnS [1] [4, 5] Try.func37 rfl (by decide) rfl (by decide) (by kernel_rfl) rfl (by simp [Try.ntmps37]) ?_
    cbv
    ((try simp only [IfP_iff, and_true, true_and, decide_eq_true_eq, decide_eq_false_iff_not]); (try simp only [natc, getI_gi, at2_0, at2_1]); (try dsimp only [Ty.den]); (try simp only [natc] at *); (repeat' (first | apply And.intro | intro _)))
    all_goals (repeat' (first | ((first | refine call_q (sp_two n L r hL hm hx hr) (by cbv) ?_ | refine call_pure (sp_two n L r hL hm hx hr) (by cbv) ?_); cbv; ((try simp only [IfP_iff, and_true, true_and, decide_eq_true_eq, decide_eq_false_iff_not]); (try simp only [natc, getI_gi, at2_0, at2_1]); (try dsimp only [Ty.den]); (try simp only [natc] at *); (repeat' (first | apply And.intro | intro _)))) | ((first | refine call_q (sp_down n 1 L r hL hm hx hr (.inr rfl) k1 k2) (by cbv) ?_ | refine call_pure (sp_down n 1 L r hL hm hx hr (.inr rfl) k1 k2) (by cbv) ?_); cbv; ((try simp only [IfP_iff, and_true, true_and, decide_eq_true_eq, decide_eq_false_iff_not]); (try simp only [natc, getI_gi, at2_0, at2_1]); (try dsimp only [Ty.den]); (try simp only [natc] at *); (repeat' (first | apply And.intro | intro _))))))
    all_goals (try (simp only [IfP_iff, EqU_iff, Obl_iff, and_true, true_and, inI_iff, decide_eq_true_eq, decide_eq_false_iff_not]; (try simp only [natc, getI_gi, at2_0, at2_1]); (try dsimp only [Ty.den]); try simp only [natc] at *))
    all_goals (first | exact h9.symm | exact hc.symm | rfl | exact ⟨h9.symm, hc.symm⟩ | (exact absurd (by assumption : (!okS n L r) = true) (by rw [hc]; decide)) | (trace_state; fail))
theorem sp_highest (n : Int) (L : List (List Int)) (r : List Int) (hL : L.length ≤ 1048576) (hm : ∀ c ∈ L, c.length ≤ 1048576) (hx : ∀ c ∈ L, ∀ x ∈ c, inI x) (hr : r.length ≤ 1048576) : Spec2 Try.prog 39 [.agg (.pr .int (.sl (.sl .int))) fun _ => (n, L), .sl .int fun _ => r] [] [.ref 0, .bool fun _ => okS n L r] [some (.row 3 .int fun _ => lowO 0 n L r)] := by
  have h9 : lowO 0 n L r = if okS n L r = true then lowR L 0 n r else [] := rfl
  cases hc : okS n L r with
  | false =>
    rw [hc, if_neg (by decide)] at h9
    refine fnS [1] [4, 5] Try.func39 rfl (by decide) rfl (by decide) (by kernel_rfl) rfl (by simp [Try.ntmps39]) ?_
    cbv
    ((try simp only [IfP_iff, and_true, true_and, decide_eq_true_eq, decide_eq_false_iff_not]); (try simp only [natc, getI_gi, at2_0, at2_1]); (try dsimp only [Ty.den]); (try simp only [natc] at *); (repeat' (first | apply And.intro | intro _)))
    all_goals (repeat' (first | ((first | refine call_q (sp_two n L r hL hm hx hr) (by cbv) ?_ | refine call_pure (sp_two n L r hL hm hx hr) (by cbv) ?_); cbv; ((try simp only [IfP_iff, and_true, true_and, decide_eq_true_eq, decide_eq_false_iff_not]); (try simp only [natc, getI_gi, at2_0, at2_1]); (try dsimp only [Ty.den]); (try simp only [natc] at *); (repeat' (first | apply And.intro | intro _))))))
    all_goals (try (simp only [IfP_iff, EqU_iff, Obl_iff, and_true, true_and, inI_iff, decide_eq_true_eq, decide_eq_false_iff_not]; (try simp only [natc, getI_gi, at2_0, at2_1]); (try dsimp only [Ty.den]); try simp only [natc] at *))
    all_goals (first | exact h9.symm | exact hc.symm | rfl | exact ⟨h9.symm, hc.symm⟩ | (exact absurd (by assumption : (!okS n L r) = false) (by rw [hc]; decide)) | (trace_state; fail))
  | true =>
    obtain ⟨k1, k2, _⟩ := okS_in hc
    rw [hc, if_pos rfl] at h9
    refine fnS [1] [4, 5] Try.func39 rfl (by decide) rfl (by decide) (by kernel_rfl) rfl (by simp [Try.ntmps39]) ?_
    cbv
    ((try simp only [IfP_iff, and_true, true_and, decide_eq_true_eq, decide_eq_false_iff_not]); (try simp only [natc, getI_gi, at2_0, at2_1]); (try dsimp only [Ty.den]); (try simp only [natc] at *); (repeat' (first | apply And.intro | intro _)))
    all_goals (repeat' (first | ((first | refine call_q (sp_two n L r hL hm hx hr) (by cbv) ?_ | refine call_pure (sp_two n L r hL hm hx hr) (by cbv) ?_); cbv; ((try simp only [IfP_iff, and_true, true_and, decide_eq_true_eq, decide_eq_false_iff_not]); (try simp only [natc, getI_gi, at2_0, at2_1]); (try dsimp only [Ty.den]); (try simp only [natc] at *); (repeat' (first | apply And.intro | intro _)))) | ((first | refine call_q (sp_down n 0 L r hL hm hx hr (.inl rfl) k1 k2) (by cbv) ?_ | refine call_pure (sp_down n 0 L r hL hm hx hr (.inl rfl) k1 k2) (by cbv) ?_); cbv; ((try simp only [IfP_iff, and_true, true_and, decide_eq_true_eq, decide_eq_false_iff_not]); (try simp only [natc, getI_gi, at2_0, at2_1]); (try dsimp only [Ty.den]); (try simp only [natc] at *); (repeat' (first | apply And.intro | intro _))))))
    all_goals (try (simp only [IfP_iff, EqU_iff, Obl_iff, and_true, true_and, inI_iff, decide_eq_true_eq, decide_eq_false_iff_not]; (try simp only [natc, getI_gi, at2_0, at2_1]); (try dsimp only [Ty.den]); try simp only [natc] at *))
    all_goals (first | exact h9.symm | exact hc.symm | rfl | exact ⟨h9.symm, hc.symm⟩ | (exact absurd (by assumption : (!okS n L r) = true) (by rw [hc]; decide)) | (trace_state; fail))
end Go.Proofs.Ytcgeedklfejhbaa.M

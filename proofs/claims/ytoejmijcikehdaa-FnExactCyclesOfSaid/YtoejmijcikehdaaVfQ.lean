/- CyclesOf, SwapCount: the program. -/
import Derived.Test.YtoejmijcikehdaaVeQ
import Derived.Test.YtoejmijcikehdaaPfQ
import Derived.Test.YtoejmijcikehdaaQg
namespace Go.Proofs.Ytoejmijcikehdaa.M
open Go.RowKit Abs
set_option linter.unusedSimpArgs false
set_option linter.unusedVariables false
set_option maxRecDepth 100000
set_option maxHeartbeats 4000000
/-- What is found with k numbers of the cycle of x. -/
def fndK (p : List Int) (x : Int) (k : Nat) : List Bool := markP (fun j => hasB (seeI p x ++ cycK p x k) j) (List.replicate p.length false)
theorem fndK_len {p : List Int} {x : Int} {k : Nat} : (fndK p x k).length = p.length := by unfold fndK; rw [markP_len, List.length_replicate]
theorem fndK_get {p : List Int} {x : Int} {k : Nat} {y : Int} (y0 : 0 ≤ y) (y1 : y < (p.length : Int)) : gb (fndK p x k) y = hasB (seeI p x ++ cycK p x k) y := by
  unfold fndK
  rw [markP_get y0 (by rw [List.length_replicate]; exact y1), gb_repl, Bool.false_or]
theorem hasB_app {a b : List Int} {x : Int} : hasB (a ++ b) x = (hasB a x || hasB b x) := by
  rw [Bool.eq_iff_iff, Bool.or_eq_true, hasB_iff, hasB_iff, hasB_iff, List.mem_append]
theorem hasB_one {a x : Int} : hasB [a] x = decide (x = a) := by
  rw [Bool.eq_iff_iff, hasB_iff, List.mem_singleton, decide_eq_true_eq]
theorem fndK_next {p : List Int} {x : Int} {k : Nat} (y0 : 0 ≤ itP p x k) (y1 : itP p x k < (p.length : Int)) : setI (fndK p x k) (itP p x k) true = fndK p x (k + 1) := by
  unfold fndK
  rw [markP_set y0 (by rw [List.length_replicate]; exact y1)]
  refine markP_congr fun j _ _ => ?_
  rw [cycK_next, ← List.append_assoc, hasB_app (a := seeI p x ++ cycK p x k), hasB_one]
/-- How many numbers are found from x on. -/
def newK (p : List Int) (x : Int) : Nat := if hasB (seeI p x) x = true then 0 else perN p x
theorem see_clo {p : List Int} (h : permB p = true) {x : Int} (x0 : 0 ≤ x) (x1 : x ≤ p.length) : cloS p (seeI p x) := seen_clo h (by omega)
theorem fnd_go {p : List Int} (h : permB p = true) {x : Int} (x0 : 0 ≤ x) (x1 : x < (p.length : Int)) {k : Nat} (hk : k ≤ newK p x) : gb (fndK p x k) (itP p x k) = decide (k = newK p x) := by
  have hi := it_in h x0 x1 k
  rw [fndK_get hi.1 hi.2]
  unfold newK at hk ⊢
  cases hb : hasB (seeI p x) x with
  | true =>
    rw [hb, if_pos rfl] at hk
    rw [if_pos rfl]
    have : k = 0 := by omega
    subst this
    rw [hasB_app]
    show (hasB (seeI p x) x || _) = _
    rw [hb]
    rfl
  | false =>
    rw [hb, if_neg (by decide)] at hk
    rw [if_neg (by decide)]
    have hx : x ∉ seeI p x := fun c => by rw [hasB_iff.2 c] at hb; cases hb
    have ho := it_out h x0 x1 (see_clo h x0 (by omega)) hx k
    rw [Bool.eq_iff_iff, hasB_iff, List.mem_append, decide_eq_true_eq]
    constructor
    · rintro (c | c)
      · exact absurd c ho
      · refine Classical.byContradiction fun hne => cyc_new h x0 x1 (by omega) c
    · intro e
      right
      rw [e]
      exact cyc_end h x0 x1
theorem cycI_new {p : List Int} {x : Int} (h : permB p = true) (x0 : 0 ≤ x) (x1 : x < (p.length : Int)) : cycI p (x + 1) = (if 0 < newK p x then cycI p x ++ [cycK p x (newK p x)] else cycI p x) ∧ fndK p x (newK p x) = fndK p (x + 1) 0 := by
  have hp := (per_ok h x0 x1).1
  have e0 : cycK p (x + 1) 0 = [] := rfl
  have e1 : cycK p x 0 = [] := rfl
  unfold fndK newK
  rw [cycI_next x0, seeI_next x0, e0, List.append_nil]
  split
  · rw [if_neg (by omega), e1, List.append_nil]
    exact ⟨rfl, rfl⟩
  · rw [if_pos (by omega)]
    exact ⟨rfl, rfl⟩
theorem im_cyclesOf (p : List Int) (hp : p.length ≤ 1048576) : Spec2 Try.prog 22 [.sl .int fun _ => p] [] [.ref 0, .bool fun _ => permB p] [some (.rows 22 3 .int fun _ => cycR p)] := by
  have hq := im_perm p hp
  have h2 : cycR p = _ := rfl
  conv at h2 => rhs; unfold cycR
  cases hb : permB p with
  | false =>
    rw [hb, if_neg (by decide)] at h2
    rw [hb] at hq
    rw [h2]
    refine fnS [0] [2, 3] Try.func22 rfl (by decide) rfl (by decide) (by kernel_rfl) rfl (by simp [Try.ntmps22]) ?_
    cbv
    ((try simp only [IfP_iff, and_true, true_and, decide_eq_true_eq, decide_eq_false_iff_not]); (try simp only [natc, getI_gi, at2_0, at2_1]); (try dsimp only [Ty.den]); (try simp only [natc] at *); (repeat' (first | apply And.intro | intro _)))
    all_goals (repeat' (first | ((first | refine call_q hq (by cbv) ?_ | refine call_pure hq (by cbv) ?_); cbv; ((try simp only [IfP_iff, and_true, true_and, decide_eq_true_eq, decide_eq_false_iff_not]); (try simp only [natc, getI_gi, at2_0, at2_1]); (try dsimp only [Ty.den]); (try simp only [natc] at *); (repeat' (first | apply And.intro | intro _))))))
    all_goals (try (exact absurd (by assumption : (!false) = false) (by decide)))
    all_goals (try (simp only [IfP_iff, EqU_iff, Obl_iff, and_true, true_and, inI_iff, decide_eq_true_eq, decide_eq_false_iff_not]; (try simp only [natc, getI_gi, at2_0, at2_1]); (try dsimp only [Ty.den]); try simp only [natc] at *))
    all_goals (first | exact ⟨rfl, rfl⟩ | rfl | trace_state)
  | true =>
    rw [hb, if_pos rfl] at h2
    rw [hb] at hq
    have h8 := (perm_ok hb).1
    rw [h2]
    clear h2
    refine fnS [0] [2, 3] Try.func22 rfl (by decide) rfl (by decide) (by kernel_rfl) rfl (by simp [Try.ntmps22]) ?_
    cbv
    ((try simp only [IfP_iff, and_true, true_and, decide_eq_true_eq, decide_eq_false_iff_not]); (try simp only [natc, getI_gi, at2_0, at2_1]); (try dsimp only [Ty.den]); (try simp only [natc] at *); (repeat' (first | apply And.intro | intro _)))
    all_goals (repeat' (first | ((first | refine call_q hq (by cbv) ?_ | refine call_pure hq (by cbv) ?_); cbv; ((try simp only [IfP_iff, and_true, true_and, decide_eq_true_eq, decide_eq_false_iff_not]); (try simp only [natc, getI_gi, at2_0, at2_1]); (try dsimp only [Ty.den]); (try simp only [natc] at *); (repeat' (first | apply And.intro | intro _))))))
    all_goals (try (exact absurd (by assumption : (!true) = true) (by decide)))
    all_goals (try (show Obl _; (simp only [IfP_iff, EqU_iff, Obl_iff, and_true, true_and, inI_iff, decide_eq_true_eq, decide_eq_false_iff_not]; (try simp only [natc, getI_gi, at2_0, at2_1]); (try dsimp only [Ty.den]); try simp only [natc] at *); ((repeat' (first | apply And.intro | intro _)) <;> first | omega | (simp only [List.length_append, List.length_cons, List.length_nil]; omega) | grind)))
    refine loopX (by kernel_rfl) (fun x : Int => 0 ≤ x ∧ x ≤ p.length) (fun x => [(19, .int fun _ => x), (4, .ref 0), (13, .junk)]) (fun x => [(0, some (.rows 22 3 .int fun _ => cycI p x)), (1, some (.row 4 .bool fun _ => fndK p x 0))]) (fun x => (p.length - x).toNat) (· + 1) 0 (by omega) ?_ ?_
    · have gz : @Eq (List Bool) (List.replicate ((p.length : Int)).toNat (zden Ty.bool)) (fndK p 0 0) := by
        unfold fndK
        rw [Int.toNat_natCast]
        have : (fun j => hasB (seeI p 0 ++ cycK p 0 0) j) = fun _ => false := by funext j; rfl
        rw [this, markP_none]
        rfl
      cbv
      (simp only [IfP_iff, EqU_iff, Obl_iff, and_true, true_and, inI_iff, decide_eq_true_eq, decide_eq_false_iff_not]; (try simp only [natc, getI_gi, at2_0, at2_1]); (try dsimp only [Ty.den]); try simp only [natc] at *)
      exact ⟨rfl, gz⟩
    · intro x hx
      have a4 := cycI_len hb hx.1 hx.2
      have a6 : ¬ x < (p.length : Int) → cycI p x = cycA p p.length := fun h => by rw [show x = p.length by omega]; exact cycI_all
      have p2 := fun h => it_in hb hx.1 (x1 := h)
      have p4 := fun h => @cycI_new p x hb hx.1 h
      have p5 : x < (p.length : Int) → newK p x ≤ 8 := fun h => by
        have := per_ok hb hx.1 h
        unfold newK
        split <;> omega
      cbv
      ((try simp only [IfP_iff, and_true, true_and, decide_eq_true_eq, decide_eq_false_iff_not]); (try simp only [natc, getI_gi, at2_0, at2_1]); (try dsimp only [Ty.den]); (try simp only [natc] at *); (repeat' (first | apply And.intro | intro _)))
      · have hx1 := (by assumption : x < (p.length : Int))
        have q2 := p2 hx1
        have q3 : ∀ k : Nat, k ≤ newK p x → _ := fun k h => @fnd_go p hb x hx.1 hx1 k h
        have q4 := p4 hx1
        have q5 := p5 hx1
        clear p2 p4 p5 a6
        refine loopX (by kernel_rfl) (fun k : Nat => k ≤ newK p x) (fun k => [(8, .int fun _ => itP p x k), (7, .ref 2), (22, .junk)]) (fun k => [(1, some (.row 4 .bool fun _ => fndK p x k)), (2, some (.row 3 .int fun _ => cycK p x k))]) (fun k => newK p x - k) (· + 1) 0 (by omega) ?_ ?_
        · cbv
          (simp only [IfP_iff, EqU_iff, Obl_iff, and_true, true_and, inI_iff, decide_eq_true_eq, decide_eq_false_iff_not]; (try simp only [natc, getI_gi, at2_0, at2_1]); (try dsimp only [Ty.den]); try simp only [natc] at *)
          exact ⟨rfl, rfl⟩
        · intro k hk
          have c1 : (cycK p x k).length = k := cycK_len
          have c3 : cycK p x k ++ [itP p x k] = cycK p x (k + 1) := cycK_next.symm
          have c4 := q2 k
          have c5 : gi p (itP p x k) = itP p x (k + 1) := rfl
          have c6 := q3 k hk
          have c7 : setI (fndK p x k) (itP p x k) true = fndK p x (k + 1) := fndK_next c4.1 c4.2
          have c8 : ((fndK p x k).length : Int) = p.length := by rw [fndK_len]
          have d1 : (!getI .bool (fndK p x k) (itP p x k)) = true → k < newK p x := fun h => by
            have h : gb (fndK p x k) (itP p x k) = false := by
              have h2 : @getI .bool (fndK p x k) (itP p x k) = false := by simpa using h
              exact h2
            rw [h] at c6
            have := of_decide_eq_false c6.symm
            omega
          have d2 : (!getI .bool (fndK p x k) (itP p x k)) = false → k = newK p x := fun h => by
            have h : gb (fndK p x k) (itP p x k) = true := by
              have h2 : @getI .bool (fndK p x k) (itP p x k) = true := by simpa using h
              exact h2
            rw [h] at c6
            exact of_decide_eq_true c6.symm
          have d3 : k = newK p x → 0 < k → cycI p x ++ [cycK p x k] = cycI p (x + 1) ∧ fndK p x k = fndK p (x + 1) 0 := fun h h1 => by
            rw [q4.1, h, if_pos (by omega)]
            exact ⟨rfl, q4.2⟩
          have d4 : k = newK p x → k = 0 → cycI p x = cycI p (x + 1) ∧ fndK p x k = fndK p (x + 1) 0 := fun h h1 => by
            rw [q4.1, h, if_neg (by omega)]
            exact ⟨rfl, q4.2⟩
          clear q2 q3 q4 c6
          cbv
          ((try simp only [IfP_iff, and_true, true_and, decide_eq_true_eq, decide_eq_false_iff_not]); (try simp only [natc, getI_gi, at2_0, at2_1]); (try dsimp only [Ty.den]); (try simp only [natc] at *); (repeat' (first | apply And.intro | intro _)))
          all_goals (try have g1 := d1 (by assumption))
          all_goals (try have g2 := d2 (by assumption))
          all_goals (try (show Obl _; (simp only [IfP_iff, EqU_iff, Obl_iff, and_true, true_and, inI_iff, decide_eq_true_eq, decide_eq_false_iff_not]; (try simp only [natc, getI_gi, at2_0, at2_1]); (try dsimp only [Ty.den]); try simp only [natc] at *); ((repeat' (first | apply And.intro | intro _)) <;> first | omega | (rw [c1]; simp only [List.length_cons, List.length_nil]; omega) | (simp only [List.length_cons, List.length_nil]; omega))))
          · refine RenL.mk ⟨[0, 1, 2], ?_⟩
            cbv
            (simp only [IfP_iff, EqU_iff, Obl_iff, and_true, true_and, inI_iff, decide_eq_true_eq, decide_eq_false_iff_not]; (try simp only [natc, getI_gi, at2_0, at2_1]); (try dsimp only [Ty.den]); try simp only [natc] at *)
            exact ⟨c5, c7, c3⟩
          · refine RenL.mk ⟨[0, 1], ?_⟩
            cbv
            (simp only [IfP_iff, EqU_iff, Obl_iff, and_true, true_and, inI_iff, decide_eq_true_eq, decide_eq_false_iff_not]; (try simp only [natc, getI_gi, at2_0, at2_1]); (try dsimp only [Ty.den]); try simp only [natc] at *)
            exact d3 g2 (by have : (0 : Int) < ((cycK p x k).length : Int) := by assumption
                            omega)
          · refine RenL.mk ⟨[0, 1], ?_⟩
            cbv
            (simp only [IfP_iff, EqU_iff, Obl_iff, and_true, true_and, inI_iff, decide_eq_true_eq, decide_eq_false_iff_not]; (try simp only [natc, getI_gi, at2_0, at2_1]); (try dsimp only [Ty.den]); try simp only [natc] at *)
            exact d4 g2 (by have : ¬ (0 : Int) < ((cycK p x k).length : Int) := by assumption
                            omega)
      · (simp only [IfP_iff, EqU_iff, Obl_iff, and_true, true_and, inI_iff, decide_eq_true_eq, decide_eq_false_iff_not]; (try simp only [natc, getI_gi, at2_0, at2_1]); (try dsimp only [Ty.den]); try simp only [natc] at *)
      · (simp only [IfP_iff, EqU_iff, Obl_iff, and_true, true_and, inI_iff, decide_eq_true_eq, decide_eq_false_iff_not]; (try simp only [natc, getI_gi, at2_0, at2_1]); (try dsimp only [Ty.den]); try simp only [natc] at *)
        exact a6 (by assumption)
theorem im_swapCount (p : List Int) (hp : p.length ≤ 1048576) : Spec2 Try.prog 20 [.sl .int fun _ => p] [] [.int fun _ => if permB p = true then (p.length : Int) - (cycA p p.length).length else 0, .bool fun _ => permB p] [] := by
  have hq := im_cyclesOf p hp
  have h2 : cycR p = _ := rfl
  conv at h2 => rhs; unfold cycR
  cases hb : permB p with
  | false =>
    rw [hb, if_neg (by decide)] at h2
    rw [hb, h2] at hq
    rw [if_neg (by decide)]
    refine fnS [] [2, 3] Try.func20 rfl (by decide) rfl (by decide) (by kernel_rfl) rfl (by simp [Try.ntmps20]) ?_
    cbv
    repeat' (first | ((first | refine call_q hq (by cbv) ?_ | refine call_pure hq (by cbv) ?_); cbv; ((try simp only [IfP_iff, and_true, true_and, decide_eq_true_eq, decide_eq_false_iff_not]); (try simp only [natc, getI_gi, at2_0, at2_1]); (try dsimp only [Ty.den]); (try simp only [natc] at *); (repeat' (first | apply And.intro | intro _)))))
    all_goals (try (simp only [IfP_iff, EqU_iff, Obl_iff, and_true, true_and, inI_iff, decide_eq_true_eq, decide_eq_false_iff_not]; (try simp only [natc, getI_gi, at2_0, at2_1]); (try dsimp only [Ty.den]); try simp only [natc] at *))
    all_goals (first | exact ⟨rfl, rfl⟩ | rfl | (exact absurd (by assumption : (!false) = false) (by decide)) | trace_state)
  | true =>
    rw [hb, if_pos rfl] at h2
    rw [hb, h2] at hq
    rw [if_pos rfl]
    have h8 := (perm_ok hb).1
    have hl := cycA_len (p := p) (k := p.length)
    refine fnS [] [2, 3] Try.func20 rfl (by decide) rfl (by decide) (by kernel_rfl) rfl (by simp [Try.ntmps20]) ?_
    cbv
    repeat' (first | ((first | refine call_q hq (by cbv) ?_ | refine call_pure hq (by cbv) ?_); cbv; ((try simp only [IfP_iff, and_true, true_and, decide_eq_true_eq, decide_eq_false_iff_not]); (try simp only [natc, getI_gi, at2_0, at2_1]); (try dsimp only [Ty.den]); (try simp only [natc] at *); (repeat' (first | apply And.intro | intro _)))))
    all_goals (try (simp only [IfP_iff, EqU_iff, Obl_iff, and_true, true_and, inI_iff, decide_eq_true_eq, decide_eq_false_iff_not]; (try simp only [natc, getI_gi, at2_0, at2_1]); (try dsimp only [Ty.den]); try simp only [natc] at *))
    all_goals ((repeat' (first | apply And.intro | intro _)) <;> first | omega | exact ⟨rfl, rfl⟩ | rfl | (exact absurd (by assumption : (!true) = true) (by decide)) | trace_state)
end Go.Proofs.Ytoejmijcikehdaa.M

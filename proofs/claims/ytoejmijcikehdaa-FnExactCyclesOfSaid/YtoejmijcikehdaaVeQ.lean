/- CyclesOf, SwapCount, on both sides. -/
import Derived.Test.YtoejmijcikehdaaVbQ
import Derived.Test.YtoejmijcikehdaaVcQ
import Derived.Test.YtoejmijcikehdaaLpQ
import Derived.Test.YtoejmijcikehdaaQg
namespace Go.Proofs.Ytoejmijcikehdaa.M
open Go.RowKit Abs
set_option linter.unusedSimpArgs false
set_option linter.unusedVariables false
set_option maxRecDepth 100000
set_option maxHeartbeats 4000000
def cycI (p : List Int) (x : Int) : List (List Int) := cycA p x.toNat
def seeI (p : List Int) (x : Int) : List Int := seenA p x.toNat
theorem cycI_next {p : List Int} {x : Int} (h0 : 0 ≤ x) : cycI p (x + 1) = if hasB (seeI p x) x = true then cycI p x else cycI p x ++ [cycK p x (perN p x)] := by
  unfold cycI seeI
  rw [show (x + 1).toNat = x.toNat + 1 by omega]
  show cycA p x.toNat ++ (if hasB (cycA p x.toNat).flatten (x.toNat : Int) = true then [] else [cycK p (x.toNat : Int) (perN p (x.toNat : Int))]) = _
  rw [Int.toNat_of_nonneg h0]
  unfold seenA
  split <;> simp
theorem seeI_next {p : List Int} {x : Int} (h0 : 0 ≤ x) : seeI p (x + 1) = if hasB (seeI p x) x = true then seeI p x else seeI p x ++ cycK p x (perN p x) := by
  unfold seeI
  rw [show (x + 1).toNat = x.toNat + 1 by omega, seen_next, Int.toNat_of_nonneg h0]
  split <;> simp
theorem seeI_len {p : List Int} (h : permB p = true) {x : Int} (h0 : 0 ≤ x) (h1 : x ≤ p.length) : (seeI p x).length ≤ 64 := by
  have a := seen_len h (k := x.toNat) (by omega)
  have b := (perm_ok h).1
  unfold seeI
  omega
theorem cycI_len {p : List Int} (h : permB p = true) {x : Int} (h0 : 0 ≤ x) (h1 : x ≤ p.length) : (cycI p x).length ≤ 8 := by
  have a := cycA_len (p := p) (k := x.toNat)
  have b := (perm_ok h).1
  unfold cycI
  omega
theorem cycI_all {p : List Int} : cycI p p.length = cycA p p.length := by
  unfold cycI
  rw [show ((p.length : Int)).toNat = p.length by omega]
theorem sp_cycles (p : List Int) (hb : permB p = true) : Spec2 Try.prog 54 [.sl .int fun _ => p] [] [.ref 0] [some (.rows 22 3 .int fun _ => cycA p p.length)] := by
  have h8 := (perm_ok hb).1
  refine fnS [0] [2] Try.func54 rfl (by decide) rfl (by decide) (by kernel_rfl) rfl (by simp [Try.ntmps54]) ?_
  cbv
  refine loopX (by kernel_rfl) (fun x : Int => 0 ≤ x ∧ x ≤ p.length) (fun x => [(5, .int fun _ => x), (3, .ref 0), (4, .ref 1), (8, .junk), (9, .junk)]) (fun x => [(0, some (.rows 22 3 .int fun _ => cycI p x)), (1, some (.row 3 .int fun _ => seeI p x))]) (fun x => (p.length - x).toNat) (· + 1) 0 (by omega) ?_ ?_
  · cbv
    (simp only [IfP_iff, EqU_iff, Obl_iff, and_true, true_and, inI_iff, decide_eq_true_eq, decide_eq_false_iff_not]; (try simp only [natc, getI_gi, at2_0, at2_1]); (try dsimp only [Ty.den]); try simp only [natc] at *)
    exact ⟨rfl, rfl⟩
  · intro x hx
    have a1 := cycI_next (p := p) hx.1
    have a2 := seeI_next (p := p) hx.1
    have a3 := seeI_len hb hx.1 hx.2
    have a4 := cycI_len hb hx.1 hx.2
    have a5 : (seeI p x).length ≤ 1048576 := by omega
    have a6 : ¬ x < (p.length : Int) → cycI p x = cycA p p.length := fun h => by rw [show x = p.length by omega]; exact cycI_all
    have a7 : x < (p.length : Int) → gi p x = itP p x 1 := fun h => rfl
    have b1 : hasB (seeI p x) x = true → cycI p x = cycI p (x + 1) ∧ seeI p x = seeI p (x + 1) := fun h => by rw [a1, a2, if_pos h, if_pos h]; exact ⟨rfl, rfl⟩
    have b2 : hasB (seeI p x) x = false → cycI p x ++ [cycK p x (perN p x)] = cycI p (x + 1) ∧ seeI p x ++ cycK p x (perN p x) = seeI p (x + 1) := fun h => by rw [a1, a2, if_neg (by rw [h]; decide), if_neg (by rw [h]; decide)]; exact ⟨rfl, rfl⟩
    have b3 : [x] = cycK p x 1 := rfl
    have p1 := fun h => per_ok hb hx.1 (x1 := h)
    have p2 := fun h => it_in hb hx.1 (x1 := h)
    clear a1 a2
    cbv
    ((try simp only [IfP_iff, and_true, true_and, decide_eq_true_eq, decide_eq_false_iff_not]); (try simp only [natc, getI_gi, at2_0, at2_1]); (try dsimp only [Ty.den]); (try simp only [natc] at *); (repeat' (first | apply And.intro | intro _)))
    all_goals (repeat' (first | ((first | refine call_q (sp_has (seeI p x) x a5) (by cbv) ?_ | refine call_pure (sp_has (seeI p x) x a5) (by cbv) ?_); cbv; ((try simp only [IfP_iff, and_true, true_and, decide_eq_true_eq, decide_eq_false_iff_not]); (try simp only [natc, getI_gi, at2_0, at2_1]); (try dsimp only [Ty.den]); (try simp only [natc] at *); (repeat' (first | apply And.intro | intro _))))))
    all_goals (try ((try simp only [IfP_iff, and_true, true_and, decide_eq_true_eq, decide_eq_false_iff_not]); (try simp only [natc, getI_gi, at2_0, at2_1]); (try dsimp only [Ty.den]); (try simp only [natc] at *); (repeat' (first | apply And.intro | intro _))))
    all_goals (try (show Obl _; (simp only [IfP_iff, EqU_iff, Obl_iff, and_true, true_and, inI_iff, decide_eq_true_eq, decide_eq_false_iff_not]; (try simp only [natc, getI_gi, at2_0, at2_1]); (try dsimp only [Ty.den]); try simp only [natc] at *); ((repeat' (first | apply And.intro | intro _)) <;> first | omega | (simp only [List.length_append, List.length_cons, List.length_nil]; omega) | grind)))
    · refine RenL.mk ⟨[0, 1], ?_⟩
      cbv
      (simp only [IfP_iff, EqU_iff, Obl_iff, and_true, true_and, inI_iff, decide_eq_true_eq, decide_eq_false_iff_not]; (try simp only [natc, getI_gi, at2_0, at2_1]); (try dsimp only [Ty.den]); try simp only [natc] at *)
      exact b1 (by assumption)
    · have hx1 := (by assumption : x < (p.length : Int))
      have hn := (by assumption : hasB (seeI p x) x = false)
      have q := p1 hx1
      have q2 := b2 hn
      have q3 := a7 hx1
      have q4 := p2 hx1
      clear b1 b2 p1 p2 a7
      refine loopX (by kernel_rfl) (fun k : Nat => 1 ≤ k ∧ k ≤ perN p x) (fun k => [(7, .int fun _ => itP p x k), (6, .ref 2), (20, .junk)]) (fun k => [(2, some (.row 3 .int fun _ => cycK p x k))]) (fun k => perN p x - k) (· + 1) 1 (by omega) ?_ ?_
      · cbv
        (simp only [IfP_iff, EqU_iff, Obl_iff, and_true, true_and, inI_iff, decide_eq_true_eq, decide_eq_false_iff_not]; (try simp only [natc, getI_gi, at2_0, at2_1]); (try dsimp only [Ty.den]); try simp only [natc] at *)
        exact ⟨q3, b3⟩
      · intro k hk
        have c1 : (cycK p x k).length = k := cycK_len
        have c2 : itP p x k ≠ x → k < perN p x := fun h => by
          refine Classical.byContradiction fun c => h ?_
          rw [show k = perN p x by omega]
          exact q.2.2.1
        have c3 : cycK p x k ++ [itP p x k] = cycK p x (k + 1) := cycK_next.symm
        have c4 := q4 k
        have c5 : gi p (itP p x k) = itP p x (k + 1) := rfl
        have c7 : itP p x k = x → k = perN p x := fun h => by
          refine Classical.byContradiction fun c => q.2.2.2 k hk.1 (by omega) h
        have c6 : itP p x k = x → cycI p x ++ [cycK p x k] = cycI p (x + 1) ∧ seeI p x ++ cycK p x k = seeI p (x + 1) := fun h => by
          rw [c7 h]
          exact q2
        clear q2 q4
        cbv
        ((try simp only [IfP_iff, and_true, true_and, decide_eq_true_eq, decide_eq_false_iff_not]); (try simp only [natc, getI_gi, at2_0, at2_1]); (try dsimp only [Ty.den]); (try simp only [natc] at *); (repeat' (first | apply And.intro | intro _)))
        all_goals (try (show Obl _; (simp only [IfP_iff, EqU_iff, Obl_iff, and_true, true_and, inI_iff, decide_eq_true_eq, decide_eq_false_iff_not]; (try simp only [natc, getI_gi, at2_0, at2_1]); (try dsimp only [Ty.den]); try simp only [natc] at *); ((repeat' (first | apply And.intro | intro _)) <;> first | omega | (rw [c1]; simp only [List.length_cons, List.length_nil]; omega) | (simp only [List.length_cons, List.length_nil]; omega) | grind)))
        · refine RenL.mk ⟨[0, 1, 2], ?_⟩
          cbv
          (simp only [IfP_iff, EqU_iff, Obl_iff, and_true, true_and, inI_iff, decide_eq_true_eq, decide_eq_false_iff_not]; (try simp only [natc, getI_gi, at2_0, at2_1]); (try dsimp only [Ty.den]); try simp only [natc] at *)
          exact ⟨c5, c3⟩
        · refine RenL.mk ⟨[0, 1], ?_⟩
          cbv
          (simp only [IfP_iff, EqU_iff, Obl_iff, and_true, true_and, inI_iff, decide_eq_true_eq, decide_eq_false_iff_not]; (try simp only [natc, getI_gi, at2_0, at2_1]); (try dsimp only [Ty.den]); try simp only [natc] at *)
          exact c6 (by simpa using (by assumption : (!decide (itP p x k = x)) = false))
    all_goals (try (simp only [IfP_iff, EqU_iff, Obl_iff, and_true, true_and, inI_iff, decide_eq_true_eq, decide_eq_false_iff_not]; (try simp only [natc, getI_gi, at2_0, at2_1]); (try dsimp only [Ty.den]); try simp only [natc] at *))
    all_goals ((repeat' (first | apply And.intro | intro _)) <;> first | omega | exact a6 (by assumption) | grind | trace_state)
def cycRb (p : List Int) (b : Bool) : List (List Int) := if b = true then cycA p p.length else []
theorem sp_cyclesOf (p : List Int) (hp : p.length ≤ 1048576) : Spec2 Try.prog 21 [.sl .int fun _ => p] [] [.ref 0, .bool fun _ => permB p] [some (.rows 22 3 .int fun _ => cycR p)] := by
  have hq := sp_perm p hp
  have h2 : cycR p = _ := rfl
  conv at h2 => rhs; unfold cycR
  cases hb : permB p with
  | false =>
    rw [hb, if_neg (by decide)] at h2
    rw [hb] at hq
    rw [h2]
    refine fnS [0] [2, 3] Try.func21 rfl (by decide) rfl (by decide) (by kernel_rfl) rfl (by simp [Try.ntmps21]) ?_
    cbv
    repeat' (first | ((first | refine call_q hq (by cbv) ?_ | refine call_pure hq (by cbv) ?_); cbv; ((try simp only [IfP_iff, and_true, true_and, decide_eq_true_eq, decide_eq_false_iff_not]); (try simp only [natc, getI_gi, at2_0, at2_1]); (try dsimp only [Ty.den]); (try simp only [natc] at *); (repeat' (first | apply And.intro | intro _)))))
    all_goals (try (simp only [IfP_iff, EqU_iff, Obl_iff, and_true, true_and, inI_iff, decide_eq_true_eq, decide_eq_false_iff_not]; (try simp only [natc, getI_gi, at2_0, at2_1]); (try dsimp only [Ty.den]); try simp only [natc] at *))
    all_goals (first | exact ⟨rfl, rfl⟩ | rfl | (exact absurd (by assumption : (!false) = false) (by decide)) | trace_state)
  | true =>
    rw [hb, if_pos rfl] at h2
    rw [hb] at hq
    rw [h2]
    have hc := sp_cycles p hb
    refine fnS [0] [2, 3] Try.func21 rfl (by decide) rfl (by decide) (by kernel_rfl) rfl (by simp [Try.ntmps21]) ?_
    cbv
    repeat' (first | ((first | refine call_q hq (by cbv) ?_ | refine call_pure hq (by cbv) ?_); cbv; ((try simp only [IfP_iff, and_true, true_and, decide_eq_true_eq, decide_eq_false_iff_not]); (try simp only [natc, getI_gi, at2_0, at2_1]); (try dsimp only [Ty.den]); (try simp only [natc] at *); (repeat' (first | apply And.intro | intro _)))) | ((first | refine call_q hc (by cbv) ?_ | refine call_pure hc (by cbv) ?_); cbv; ((try simp only [IfP_iff, and_true, true_and, decide_eq_true_eq, decide_eq_false_iff_not]); (try simp only [natc, getI_gi, at2_0, at2_1]); (try dsimp only [Ty.den]); (try simp only [natc] at *); (repeat' (first | apply And.intro | intro _)))))
    all_goals (try (simp only [IfP_iff, EqU_iff, Obl_iff, and_true, true_and, inI_iff, decide_eq_true_eq, decide_eq_false_iff_not]; (try simp only [natc, getI_gi, at2_0, at2_1]); (try dsimp only [Ty.den]); try simp only [natc] at *))
    all_goals (first | exact ⟨rfl, rfl⟩ | rfl | (exact absurd (by assumption : (!true) = true) (by decide)) | trace_state)
theorem sp_swapCount (p : List Int) (hp : p.length ≤ 1048576) : Spec2 Try.prog 19 [.sl .int fun _ => p] [] [.int fun _ => if permB p = true then (p.length : Int) - (cycA p p.length).length else 0, .bool fun _ => permB p] [] := by
  have hq := sp_perm p hp
  cases hb : permB p with
  | false =>
    rw [if_neg (by decide)]
    rw [hb] at hq
    refine fnS [] [2, 3] Try.func19 rfl (by decide) rfl (by decide) (by kernel_rfl) rfl (by simp [Try.ntmps19]) ?_
    cbv
    repeat' (first | ((first | refine call_q hq (by cbv) ?_ | refine call_pure hq (by cbv) ?_); cbv; ((try simp only [IfP_iff, and_true, true_and, decide_eq_true_eq, decide_eq_false_iff_not]); (try simp only [natc, getI_gi, at2_0, at2_1]); (try dsimp only [Ty.den]); (try simp only [natc] at *); (repeat' (first | apply And.intro | intro _)))))
    all_goals (try (simp only [IfP_iff, EqU_iff, Obl_iff, and_true, true_and, inI_iff, decide_eq_true_eq, decide_eq_false_iff_not]; (try simp only [natc, getI_gi, at2_0, at2_1]); (try dsimp only [Ty.den]); try simp only [natc] at *))
    all_goals (first | exact ⟨rfl, rfl⟩ | rfl | (exact absurd (by assumption : (!false) = false) (by decide)) | trace_state)
  | true =>
    rw [if_pos rfl]
    rw [hb] at hq
    have hc := sp_cycles p hb
    have h8 := (perm_ok hb).1
    have hl := cycA_len (p := p) (k := p.length)
    refine fnS [] [2, 3] Try.func19 rfl (by decide) rfl (by decide) (by kernel_rfl) rfl (by simp [Try.ntmps19]) ?_
    cbv
    repeat' (first | ((first | refine call_q hq (by cbv) ?_ | refine call_pure hq (by cbv) ?_); cbv; ((try simp only [IfP_iff, and_true, true_and, decide_eq_true_eq, decide_eq_false_iff_not]); (try simp only [natc, getI_gi, at2_0, at2_1]); (try dsimp only [Ty.den]); (try simp only [natc] at *); (repeat' (first | apply And.intro | intro _)))) | ((first | refine call_q hc (by cbv) ?_ | refine call_pure hc (by cbv) ?_); cbv; ((try simp only [IfP_iff, and_true, true_and, decide_eq_true_eq, decide_eq_false_iff_not]); (try simp only [natc, getI_gi, at2_0, at2_1]); (try dsimp only [Ty.den]); (try simp only [natc] at *); (repeat' (first | apply And.intro | intro _)))))
    all_goals (try (simp only [IfP_iff, EqU_iff, Obl_iff, and_true, true_and, inI_iff, decide_eq_true_eq, decide_eq_false_iff_not]; (try simp only [natc, getI_gi, at2_0, at2_1]); (try dsimp only [Ty.den]); try simp only [natc] at *))
    all_goals ((repeat' (first | apply And.intro | intro _)) <;> first | omega | exact ⟨rfl, rfl⟩ | rfl | (exact absurd (by assumption : (!true) = true) (by decide)) | trace_state)
end Go.Proofs.Ytoejmijcikehdaa.M

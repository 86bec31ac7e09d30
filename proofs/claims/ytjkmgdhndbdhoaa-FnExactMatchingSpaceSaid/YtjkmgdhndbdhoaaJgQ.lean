/- Spaces of States in order: the program's search for steps, for whatever tells that two differ. -/
import Derived.Test.YtjkmgdhndbdhoaaLpQ
import Derived.Test.YtjkmgdhndbdhoaaQg
namespace Go.Proofs.Ytjkmgdhndbdhoaa.M
open Go.RowKit Abs
set_option linter.unusedSimpArgs false
set_option linter.unusedVariables false
set_option maxRecDepth 100000
set_option maxHeartbeats 4000000
def wRow (q : Int → Int → Bool) (i : Int) : Nat → List (Int × Int)
  | 0 => []
  | k + 1 => wRow q i k ++ if q i (i + 1 + k) = true then [(i, i + 1 + k)] else []
def wTo (q : Int → Int → Bool) (m : Int) : Nat → List (Int × Int)
  | 0 => []
  | a + 1 => wTo q m a ++ wRow q a (m - ((a : Int) + 1)).toNat
theorem wRow_next {q : Int → Int → Bool} {i j : Int} (h : i + 1 ≤ j) : wRow q i (j + 1 - (i + 1)).toNat = wRow q i (j - (i + 1)).toNat ++ if q i j = true then [(i, j)] else [] := by
  obtain ⟨k, hk⟩ : ∃ k : Nat, j = i + 1 + k := ⟨(j - (i + 1)).toNat, by omega⟩
  subst hk
  rw [show (i + 1 + (k : Int) + 1 - (i + 1)).toNat = k + 1 by omega, show (i + 1 + (k : Int) - (i + 1)).toNat = k by omega]
  rfl
theorem wTo_next {q : Int → Int → Bool} {m i : Int} (h : 0 ≤ i) : wTo q m (i + 1).toNat = wTo q m i.toNat ++ wRow q i (m - (i + 1)).toNat := by
  obtain ⟨k, hk⟩ : ∃ k : Nat, i = k := ⟨i.toNat, by omega⟩
  subst hk
  rw [show ((k : Int) + 1).toNat = k + 1 by omega, show (k : Int).toNat = k by omega]
  rfl
theorem wRow_len (q : Int → Int → Bool) (i : Int) : ∀ k, (wRow q i k).length ≤ k
  | 0 => Nat.le_refl _
  | k + 1 => by
    have := wRow_len q i k
    unfold wRow
    split <;> simp <;> omega
theorem wTo_len (q : Int → Int → Bool) {m : Int} (h : m ≤ 40000) : ∀ k, (wTo q m k).length ≤ 40000 * k
  | 0 => Nat.le_refl _
  | k + 1 => by
    have := wTo_len q h k
    have := wRow_len q k (m - ((k : Int) + 1)).toNat
    unfold wTo
    rw [List.length_append]
    omega
theorem im_spaceWhere (L : List (List Int)) (f : FuncId) (c : Unit → CapR) (q : Int → Int → Bool) (hL : L.length ≤ 40000) (hf : ∀ i j : Int, 0 ≤ i → i < L.length → 0 ≤ j → j < L.length → Fn1 Try.prog tab f c [.sl .int fun _ => getR .int L i, .sl .int fun _ => getR .int L j] [.bool fun _ => q i j]) : Spec2 Try.prog 37 [.ref 0, .fnr f c] [some (.rows 43 3 .int fun _ => L)] [.cells [.ref 0, .ref 1]] [some (.rows 43 3 .int fun _ => L), some (.row 59 (.pr .int .int) fun _ => wTo q L.length L.length)] := by
  refine fnG [.cst 4 2 37] Try.func37 rfl (by decide) rfl (by kernel_rfl) (.inl rfl) (by kernel_rfl) (by simp) (by simp [Try.ntmps37]) ?_
  cbv
  refine LoopL.nil 59 (.pr .int .int) [.box 2 1] ?_
  refine loopP (by kernel_rfl) (fun i : Int => 0 ≤ i ∧ i ≤ L.length) (fun i => [(12, .int fun _ => i)]) (fun i => [(3, some (.row 59 (.pr .int .int) fun _ => wTo q L.length i.toNat)), (2, some (.box 37 [.ref 0, .ref 3]))]) (fun i => (L.length - i).toNat) (· + 1) 0 (by omega) ?_ ?_
  · cbv
    (simp only [IfP_iff, EqU_iff, Obl_iff, and_true, true_and, inI_iff, decide_eq_true_eq, decide_eq_false_iff_not]; (try simp only [natc, getI_gi, at2_0, at2_1]); (try dsimp only [Ty.den]); try simp only [natc] at *)
    exact rfl
  · intro i hi
    have c1 := wTo_next (q := q) (m := L.length) hi.1
    have c2 := wTo_len q (m := (L.length : Int)) (by omega) i.toNat
    have c3 : wRow q i (i + 1 - (i + 1)).toNat = [] := by rw [show (i + 1 - (i + 1)).toNat = 0 by omega]; rfl
    have c5 : ¬ i < (L.length : Int) → wTo q L.length i.toNat = wTo q L.length L.length := fun h => by rw [show i.toNat = L.length by omega]
    have c6 : (wTo q L.length i.toNat).length ≤ 1600000000 := by omega
    clear c2
    cbv
    ((try simp only [IfP_iff, and_true, true_and, decide_eq_true_eq, decide_eq_false_iff_not]); (try simp only [natc, getI_gi, at2_0, at2_1]); (try dsimp only [Ty.den]); (try simp only [natc] at *); (repeat' (first | apply And.intro | intro _)))
    rotate_left 1
    · refine loopP (by kernel_rfl) (fun j : Int => i + 1 ≤ j ∧ (j ≤ L.length ∨ j = i + 1)) (fun j => [(7, .int fun _ => j)]) (fun j => [(3, some (.row 59 (.pr .int .int) fun _ => wTo q L.length i.toNat ++ wRow q i (j - (i + 1)).toNat)), (2, some (.box 37 [.ref 0, .ref 3]))]) (fun j => (L.length - j).toNat) (· + 1) (i + 1) (by omega) ?_ ?_
      · cbv
        (simp only [IfP_iff, EqU_iff, Obl_iff, and_true, true_and, inI_iff, decide_eq_true_eq, decide_eq_false_iff_not]; (try simp only [natc, getI_gi, at2_0, at2_1]); (try dsimp only [Ty.den]); try simp only [natc] at *)
        rw [c3, List.append_nil]
      · intro j hj
        have d1 := wRow_next (q := q) hj.1
        have d2 := wRow_len q i (j - (i + 1)).toNat
        have d4 : ¬ j < (L.length : Int) → wTo q L.length i.toNat ++ wRow q i (j - (i + 1)).toNat = wTo q L.length (i + 1).toNat := fun h => by
          rw [c1, show j = (L.length : Int) by omega]
        have d5 : q i j = true → wTo q L.length i.toNat ++ wRow q i (j - (i + 1)).toNat ++ [(i, j)] = wTo q L.length i.toNat ++ wRow q i (j + 1 - (i + 1)).toNat := fun a => by rw [d1, if_pos a, List.append_assoc]
        have d6 : q i j = false → wTo q L.length i.toNat ++ wRow q i (j - (i + 1)).toNat = wTo q L.length i.toNat ++ wRow q i (j + 1 - (i + 1)).toNat := fun a => by rw [d1, if_neg (by rw [a]; decide), List.append_nil]
        have d7 : (wTo q L.length i.toNat ++ wRow q i (j - (i + 1)).toNat).length ≤ 1600080000 := by rw [List.length_append]; omega
        clear d1 d2 c1 c3 c5 c6
        cbv
        ((try simp only [IfP_iff, and_true, true_and, decide_eq_true_eq, decide_eq_false_iff_not]); (try simp only [natc, getI_gi, at2_0, at2_1]); (try dsimp only [Ty.den]); (try simp only [natc] at *); (repeat' (first | apply And.intro | intro _)))
        all_goals (repeat' (first | ((first | refine call_fnq (hf i j (by omega) (by omega) (by omega) (by omega)) rfl (by cbv) ?_ | refine call_fn (hf i j (by omega) (by omega) (by omega) (by omega)) rfl (by cbv) ?_); cbv; ((try simp only [IfP_iff, and_true, true_and, decide_eq_true_eq, decide_eq_false_iff_not]); (try simp only [natc, getI_gi, at2_0, at2_1]); (try dsimp only [Ty.den]); (try simp only [natc] at *); (repeat' (first | apply And.intro | intro _))))))
        all_goals (try ((try simp only [IfP_iff, and_true, true_and, decide_eq_true_eq, decide_eq_false_iff_not]); (try simp only [natc, getI_gi, at2_0, at2_1]); (try dsimp only [Ty.den]); (try simp only [natc] at *); (repeat' (first | apply And.intro | intro _))))
        all_goals (try (simp only [IfP_iff, EqU_iff, Obl_iff, and_true, true_and, inI_iff, decide_eq_true_eq, decide_eq_false_iff_not]; (try simp only [natc, getI_gi, at2_0, at2_1]); (try dsimp only [Ty.den]); try simp only [natc] at *))
        all_goals ((repeat' (first | apply And.intro | intro _)) <;> first | omega | (exact d4 (by assumption)) | (exact d5 (by assumption)) | (exact d6 (by assumption)) | (simp only [List.length_cons, List.length_nil] at *; omega) | trace_state)
    · refine EndG.plain [0, 3] ?_
      cbv
      (simp only [IfP_iff, EqU_iff, Obl_iff, and_true, true_and, inI_iff, decide_eq_true_eq, decide_eq_false_iff_not]; (try simp only [natc, getI_gi, at2_0, at2_1]); (try dsimp only [Ty.den]); try simp only [natc] at *)
      exact c5 (by assumption)
    all_goals (try (simp only [IfP_iff, EqU_iff, Obl_iff, and_true, true_and, inI_iff, decide_eq_true_eq, decide_eq_false_iff_not]; (try simp only [natc, getI_gi, at2_0, at2_1]); (try dsimp only [Ty.den]); try simp only [natc] at *))
    all_goals ((repeat' (first | apply And.intro | intro _)) <;> first | omega | trace_state)
end Go.Proofs.Ytjkmgdhndbdhoaa.M

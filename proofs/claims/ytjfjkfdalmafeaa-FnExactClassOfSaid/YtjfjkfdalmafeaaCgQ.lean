/- The classes of a Formula: the specification. -/
import Derived.Test.YtjfjkfdalmafeaaCfQ
import Derived.Test.YtjfjkfdalmafeaaQc
namespace Go.Proofs.Ytjfjkfdalmafeaa.M
open Go.RowKit Abs
set_option linter.unusedSimpArgs false
set_option linter.unusedVariables false
set_option maxRecDepth 100000
set_option maxHeartbeats 4000000
def mx2 (a b : Int) : Int := if b < a then a else b
theorem sp_mx2 (a b : Int) : Spec2 Try.prog 83 [.int fun _ => a, .int fun _ => b] [] [.int fun _ => mx2 a b] [] := by
  have h9 : mx2 a b = if b < a then a else b := rfl
  refine fnS [] [4] Try.func83 rfl (by decide) rfl (by decide) (by kernel_rfl) rfl (by simp [Try.ntmps83]) ?_
  cbv
  ((try simp only [IfP_iff, and_true, true_and, decide_eq_true_eq, decide_eq_false_iff_not]); (try simp only [natc, getI_gi, at2_0, at2_1]); (try dsimp only [Ty.den]); (try simp only [natc] at *); (repeat' (first | apply And.intro | intro _)))
  all_goals (try (simp only [IfP_iff, EqU_iff, Obl_iff, and_true, true_and, inI_iff, decide_eq_true_eq, decide_eq_false_iff_not]; (try simp only [natc, getI_gi, at2_0, at2_1]); (try dsimp only [Ty.den]); try simp only [natc] at *))
  all_goals ((repeat' (first | apply And.intro | intro _)) <;> first | omega | (simp only [List.length_append, List.length_cons, List.length_nil]; omega) | grind)
def mxT (f : Int → Int) : Nat → Int
  | 0 => 0
  | k + 1 => mx2 (mxT f k) (f (k : Int))
theorem mxT_next {f : Int → Int} {k : Int} (h : 0 ≤ k) : mxT f (k + 1).toNat = mx2 (mxT f k.toNat) (f k) := by
  have e : (k + 1).toNat = k.toNat + 1 := by omega
  rw [e]
  show mx2 _ (f ((k.toNat : Nat) : Int)) = _
  rw [Int.toNat_of_nonneg h]
theorem mxT_le {f : Int → Int} {c : Int} (hc : 0 ≤ c) : ∀ n : Nat, decide (mxT f n ≤ c) = allI n (leB f c)
  | 0 => by
    rw [show mxT f 0 = 0 from rfl, decide_eq_true hc]
    rfl
  | n + 1 => by
    have h1 := mxT_le (f := f) hc n
    have h2 := allI_nxt (p := leB f c) (k := (n : Int)) (by omega)
    rw [show ((n : Int) + 1).toNat = n + 1 by omega, show ((n : Int)).toNat = n by omega] at h2
    rw [h2, ← h1]
    show decide (mx2 (mxT f n) (f (n : Int)) ≤ c) = _
    unfold mx2 leB
    rw [Bool.eq_iff_iff, Bool.and_eq_true, decide_eq_true_eq, decide_eq_true_eq, decide_eq_true_eq]
    split <;> omega
theorem sp_most6 (n : Int) (L : List (List Int)) (hL : L.length ≤ 1048576) (hm : ∀ r ∈ L, r.length ≤ 1048576) : Spec2 Try.prog 64 [.cells [.int fun _ => n, .sl (.sl .int) fun _ => L]] [] [.cells [.int fun _ => mxT (lngF L) L.length, .int fun _ => mxT (posF L) L.length, .int fun _ => mxT (negF L) L.length]] [] := by
  have hk : ∀ i : Int, 0 ≤ i → i < (L.length : Int) → (getR .int L i).length ≤ 1048576 := fun i a b => hm _ (getR_mem a b)
  clear hm
  refine fnG [.cst 2 3 76] Try.func64 rfl (by decide) rfl (by kernel_rfl) (.inl rfl) (by kernel_rfl) (Nat.zero_le _) (by simp [Try.ntmps64]) ?_
  cbv
  refine loopP (by kernel_rfl) (fun i : Int => 0 ≤ i ∧ i ≤ L.length) (fun i => [(4, .int fun _ => i)]) (fun i => [(2, some (.box 76 [.int fun _ => mxT (lngF L) i.toNat, .int fun _ => mxT (posF L) i.toNat, .int fun _ => mxT (negF L) i.toNat]))]) (fun i => (L.length - i).toNat) (· + 1) 0 (by omega) ?_ ?_
  · cbv
    (simp only [IfP_iff, EqU_iff, Obl_iff, and_true, true_and, inI_iff, decide_eq_true_eq, decide_eq_false_iff_not]; (try simp only [natc, getI_gi, at2_0, at2_1]); (try dsimp only [Ty.den]); try simp only [natc] at *)
    exact ⟨rfl, rfl, rfl⟩
  · intro i hi
    have a1 := mxT_next (f := lngF L) hi.1
    have a2 := mxT_next (f := posF L) hi.1
    have a3 := mxT_next (f := negF L) hi.1
    have b1 : lngF L i = (getR .int L i).length := rfl
    have b2 : posF L i = cntP (getR .int L i) := rfl
    have b3 : negF L i = (getR .int L i).length - cntP (getR .int L i) := rfl
    have b4 : ¬ i < (L.length : Int) → i.toNat = L.length := by omega
    have b5 := hk i hi.1
    clear hk
    cbv
    ((try simp only [IfP_iff, and_true, true_and, decide_eq_true_eq, decide_eq_false_iff_not]); (try simp only [natc, getI_gi, at2_0, at2_1]); (try dsimp only [Ty.den]); (try simp only [natc] at *); (repeat' (first | apply And.intro | intro _)))
    · have b6 := b5 (by assumption)
      refine loopP (by kernel_rfl) (fun k : Int => 0 ≤ k ∧ k ≤ (getR .int L i).length) (fun k => [(6, .int fun _ => k), (5, .int fun _ => cntP ((getR .int L i).take k.toNat))]) (fun _ => []) (fun k => ((getR .int L i).length - k).toNat) (· + 1) 0 (by omega) ?_ ?_
      · cbv
        (simp only [IfP_iff, EqU_iff, Obl_iff, and_true, true_and, inI_iff, decide_eq_true_eq, decide_eq_false_iff_not]; (try simp only [natc, getI_gi, at2_0, at2_1]); (try dsimp only [Ty.den]); try simp only [natc] at *)
        simp [cntP]
      · intro k hk
        have c1 := cntP_next (r := getR .int L i) hk.1
        have c2 := cntP_in ((getR .int L i).take k.toNat)
        have c3 : ((getR .int L i).take k.toNat).length ≤ 1048576 := by rw [List.length_take]; omega
        have c4 : ¬ k < ((getR .int L i).length : Int) → (getR .int L i).take k.toNat = getR .int L i := fun h => List.take_of_length_le (by omega)
        have c5 := cntP_in (getR .int L i)
        cbv
        ((try simp only [IfP_iff, and_true, true_and, decide_eq_true_eq, decide_eq_false_iff_not]); (try simp only [natc, getI_gi, at2_0, at2_1]); (try dsimp only [Ty.den]); (try simp only [natc] at *); (repeat' (first | apply And.intro | intro _)))
        all_goals (repeat' (first | ((first | refine call_q (sp_mx2 _ _) (by cbv) ?_ | refine call_pure (sp_mx2 _ _) (by cbv) ?_); cbv; ((try simp only [IfP_iff, and_true, true_and, decide_eq_true_eq, decide_eq_false_iff_not]); (try simp only [natc, getI_gi, at2_0, at2_1]); (try dsimp only [Ty.den]); (try simp only [natc] at *); (repeat' (first | apply And.intro | intro _))))))
        all_goals (try (simp only [IfP_iff, EqU_iff, Obl_iff, and_true, true_and, inI_iff, decide_eq_true_eq, decide_eq_false_iff_not]; (try simp only [natc, getI_gi, at2_0, at2_1]); (try dsimp only [Ty.den]); try simp only [natc] at *))
        all_goals (try simp only [show getI (.sl .int) L i = getR .int L i from rfl] at *)
        all_goals ((repeat' (first | apply And.intro | intro _)) <;> first | omega | (simp only [List.length_append, List.length_cons, List.length_nil]; omega) | grind)
    · refine EndG.plain [] ?_
      cbv
      (simp only [IfP_iff, EqU_iff, Obl_iff, and_true, true_and, inI_iff, decide_eq_true_eq, decide_eq_false_iff_not]; (try simp only [natc, getI_gi, at2_0, at2_1]); (try dsimp only [Ty.den]); try simp only [natc] at *)
      rw [b4 (by assumption)]
      exact ⟨rfl, rfl, rfl⟩
theorem sp_classOf (n : Int) (L : List (List Int)) (hL : L.length ≤ 1048576) (hm : ∀ r ∈ L, r.length ≤ 1048576) : Spec2 Try.prog 24 [.cells [.int fun _ => n, .sl (.sl .int) fun _ => L]] [] [.bool fun _ => clB (lngF L) 2 n L, .bool fun _ => clB (posF L) 1 n L, .bool fun _ => clB (negF L) 1 n L, .bool fun _ => formOk n L] [] := by
  have h91 : clB (lngF L) 2 n L = (formOk n L && decide (mxT (lngF L) L.length ≤ 2)) := by rw [mxT_le (by omega)]; rfl
  have h92 : clB (posF L) 1 n L = (formOk n L && decide (mxT (posF L) L.length ≤ 1)) := by rw [mxT_le (by omega)]; rfl
  have h93 : clB (negF L) 1 n L = (formOk n L && decide (mxT (negF L) L.length ≤ 1)) := by rw [mxT_le (by omega)]; rfl
  refine fnG4 [.tmp 2, .tmp 3, .tmp 4, .tmp 5] Try.func24 rfl (by decide) rfl (by kernel_rfl) rfl (by kernel_rfl) (Nat.zero_le _) (by simp [Try.ntmps24]) ?_
  cbv
  repeat' (first | ((first | refine call_q (Spec2.agg6 (t := .pr .int (.sl (.sl .int))) (x := fun _ => (n, L)) (sp_good6 n L hL hm)) (by cbv) ?_ | refine call_pure (Spec2.agg6 (t := .pr .int (.sl (.sl .int))) (x := fun _ => (n, L)) (sp_good6 n L hL hm)) (by cbv) ?_); cbv; ((try simp only [IfP_iff, and_true, true_and, decide_eq_true_eq, decide_eq_false_iff_not]); (try simp only [natc, getI_gi, at2_0, at2_1]); (try dsimp only [Ty.den]); (try simp only [natc] at *); (repeat' (first | apply And.intro | intro _)))) | ((first | refine call_q (Spec2.agg6 (t := .pr .int (.sl (.sl .int))) (x := fun _ => (n, L)) (sp_most6 n L hL hm)) (by cbv) ?_ | refine call_pure (Spec2.agg6 (t := .pr .int (.sl (.sl .int))) (x := fun _ => (n, L)) (sp_most6 n L hL hm)) (by cbv) ?_); cbv; ((try simp only [IfP_iff, and_true, true_and, decide_eq_true_eq, decide_eq_false_iff_not]); (try simp only [natc, getI_gi, at2_0, at2_1]); (try dsimp only [Ty.den]); (try simp only [natc] at *); (repeat' (first | apply And.intro | intro _)))))
  all_goals (try (simp only [IfP_iff, EqU_iff, Obl_iff, and_true, true_and, inI_iff, decide_eq_true_eq, decide_eq_false_iff_not]; (try simp only [natc, getI_gi, at2_0, at2_1]); (try dsimp only [Ty.den]); try simp only [natc] at *))
  · refine EndG.plain [] ?_
    cbv
    (simp only [IfP_iff, EqU_iff, Obl_iff, and_true, true_and, inI_iff, decide_eq_true_eq, decide_eq_false_iff_not]; (try simp only [natc, getI_gi, at2_0, at2_1]); (try dsimp only [Ty.den]); try simp only [natc] at *)
    have hf : formOk n L = false := by simpa using (by assumption : (!formOk n L) = true)
    rw [h91, h92, h93, hf]
    exact ⟨rfl, rfl, rfl, rfl⟩
  iterate 3
    · omega
  · refine EndG.plain [] ?_
    cbv
    (simp only [IfP_iff, EqU_iff, Obl_iff, and_true, true_and, inI_iff, decide_eq_true_eq, decide_eq_false_iff_not]; (try simp only [natc, getI_gi, at2_0, at2_1]); (try dsimp only [Ty.den]); try simp only [natc] at *)
    have hf : formOk n L = true := by simpa using (by assumption : (!formOk n L) = false)
    rw [h91, h92, h93, hf]
    exact ⟨rfl, rfl, rfl, rfl⟩
end Go.Proofs.Ytjfjkfdalmafeaa.M

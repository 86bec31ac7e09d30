/- Negated variables of a Formula: the program. -/
import Derived.Test.YtcgeedklfejhbaaNeQ
import Derived.Test.YtcgeedklfejhbaaNqQ
import Derived.Test.YtcgeedklfejhbaaQc
namespace Go.Proofs.Ytcgeedklfejhbaa.M
open Go.RowKit Abs
set_option linter.unusedSimpArgs false
set_option linter.unusedVariables false
set_option maxRecDepth 100000
set_option maxHeartbeats 4000000
theorem Spec2.elem0 {P : Program} {f : FuncId} {e e2 : TypeId} {t : Ty} {L : List (List t.den)} {i : Int} {l l' : List t.den} (ht : t.flat = true) (hi0 : 0 ≤ i) (hi1 : i < (L.length : Int)) (hl : getR t L i = l)
    (h : Spec2 P f [.ref 0] [some (.row e2 t fun _ => l)] [] [some (.row e2 t fun _ => l')]) :
    Spec2 P f [.elem 0 fun _ => i] [some (.rows e e2 t fun _ => L)] [] [some (.rows e e2 t fun _ => setI L i l')] := by
  refine ⟨h.1, by simp, fun w val vs hH hv => ?_⟩
  match vs, hv with
  | [v], hv =>
  simp only [VRelL, VRel, and_true] at hv
  obtain ⟨_, _, hi⟩ := hv
  have hB0 := hH.blk 0 _ rfl
  have hlt0 := hH.lt 0 _ rfl
  have hB := hB0
  obtain ⟨k1, k2, k3, k4, k5⟩ := hB
  have hgi : L[i.toNat]? = some l := by rw [← hl]; exact getR_get hi0 hi1
  obtain ⟨hv', xs, m1, m2, m3⟩ := k2 i.toNat l hgi
  rw [hi] at m1
  cases m1
  have inF : ∀ g, ownB v = some g → g ∈ (val 0).F := fun g hg => (k3 g).2 (.inr ⟨v, List.mem_of_getElem? hi, hg⟩)
  have hok : ∀ b, okF [some (.rows e e2 t fun _ => L)] val b → okF [some (.row e2 t fun _ => l)] (fun _ => (⟨v, [], (ownB v).toList⟩ : Bd)) b := fun b hb n B hn hg => by
    cases n with
    | succ n => simp at hn
    | zero => exact hb 0 _ rfl (inF b (by simpa using hg))
  have hH' : HRel w (fun _ => (⟨v, [], (ownB v).toList⟩ : Bd)) [some (.row e2 t fun _ => l)] := by
    refine ⟨fun n B hn => ?_, fun n B hn g hg => ?_, fun n m B C hne hn hm => ?_⟩
    · cases n with
      | succ n => simp at hn
      | zero => cases hn; exact ⟨xs, m2, ⟨m3.1, fun i z hz => (m3.2 i z hz).weak hok⟩, rfl⟩
    · cases n with
      | succ n => simp at hn
      | zero => exact hlt0 g (inF g (by simpa using hg))
    · cases n with
      | succ n => simp at hn
      | zero => cases m with
        | succ m => simp at hm
        | zero => exact (hne rfl).elim
  refine (h.2.2 w _ [v] hH' (by simp [VRelL, VRel])).mono fun x w' ⟨v', val', he, hp⟩ => ?_
  have hpB : ∀ b, pBlk [some (.row e2 t fun _ => l)] (fun _ => (⟨v, [], (ownB v).toList⟩ : Bd)) b → ownB v = some b := fun b ⟨n, B, hn, hb⟩ => by
    cases n with
    | succ n => simp at hn
    | zero => simpa using hb
  have hsame : ∀ g, g ∈ (val 0).F → ownB v ≠ some g → w'.heap[g]? = w.heap[g]? := fun g hg hne => hp.fr.same g (hlt0 g hg) fun hb => hne (hpB g hb)
  obtain ⟨xs', n1, n2, n3⟩ := hp.heap.blk 0 _ rfl
  have hv0 : (val' 0).v = v := hp.head 0 (by simp)
  rw [hv0] at n1 n3
  refine ⟨v', val, he, ⟨hp.fr.os, hp.fr.tape, hp.fr.output, hp.fr.size, fun b hb hnb => hp.fr.same b hb fun hq => hnb ⟨0, _, rfl, inF b (hpB b hq)⟩⟩, ⟨fun n B hn => ?_, fun n B hn g hg => ?_, fun n m B C hne hn hm => ?_⟩, fun n B hn g hg => ?_, fun n hn => rfl, ?_⟩
  · cases n with
    | succ n => simp at hn
    | zero =>
      cases hn
      have hlen : (setI L i l').length = L.length := by simp [setI]
      refine ⟨?_, fun j y hj => ?_, k3, k4, k5⟩
      · show w'.ownsRow 0 e 1 (val 0).v (setI L i l').length (val 0).hs
        rw [hlen]
        exact ownsRow_keep k1 fun g hg => hsame g ((k3 g).2 (.inl (by simpa using hg))) fun hvg => k5 v (List.mem_of_getElem? hi) g hvg (by simpa using hg)
      · by_cases hji : j = i.toNat
        · subst hji
          have e1 : (setI L i l')[i.toNat]? = some l' := by unfold setI; exact List.getElem?_set_self (by omega)
          have hj' : (setI L i l')[i.toNat]? = some y := hj
          rw [e1] at hj'
          cases hj'
          exact ⟨v, xs', hi, n1, n2⟩
        · have e1 : (setI L i l')[j]? = L[j]? := by unfold setI; exact List.getElem?_set_ne (Ne.symm hji)
          have hj' : (setI L i l')[j]? = some y := hj
          rw [e1] at hj'
          obtain ⟨h2, ys, q1, q2, q3⟩ := k2 j y hj'
          refine ⟨h2, ys, q1, ownsRow_keep q2 fun g hg => hsame g ((k3 g).2 (.inr ⟨h2, List.mem_of_getElem? q1, by simpa using hg⟩)) fun hvg => hji (k4 j i.toNat h2 v g q1 hi (by simpa using hg) hvg), q3.1, fun a z hz => ?_⟩
          exact ((q3.2 a z hz).mono hp.fr.size (ok' := fun _ => True) fun b hb hlt => ⟨trivial, hp.fr.same b hlt fun hq => hb 0 _ rfl (inF b (hpB b hq))⟩).flat ht
  · cases n with
    | succ n => simp at hn
    | zero => exact Nat.lt_of_lt_of_le (hlt0 g hg) hp.fr.size
  · cases n with
    | succ n => simp at hn
    | zero => cases m with
      | succ m => simp at hm
      | zero => exact (hne rfl).elim
  · cases n with
    | succ n => simp at hn
    | zero => exact .inr ⟨0, _, rfl, hg⟩
  · have := hp.res
    unfold ResV at this ⊢
    obtain ⟨vs, a, b⟩ := this
    refine ⟨vs, a, ?_⟩
    cases vs with
    | nil => simp [VRelL]
    | cons _ _ => simp [VRelL] at b
def negOk (n : Int) (L : List (List Int)) (V : List Int) : Bool := formOk n L && ascB n V
theorem im_neg_bad (n : Int) (L : List (List Int)) (V : List Int) (hL : L.length ≤ 1048576) (hm : ∀ r ∈ L, r.length ≤ 1048576) (hx : ∀ r ∈ L, ∀ x ∈ r, inI x) (hV : V.length ≤ 1048576) (hb : negOk n L V = false) : Spec2 Try.prog 16 [.agg (.pr .int (.sl (.sl .int))) fun _ => (n, L), .sl .int fun _ => V] [] [.cells [.int fun _ => 0, .ref 0], .bool fun _ => false] [some (.rows 25 3 .int fun _ => [])] := by
  have h9 : negOk n L V = (formOk n L && ascB n V) := rfl
  rw [hb] at h9
  refine fnG [.cst 4 2 27, .tmp 5] Try.func16 rfl (by decide) rfl (by kernel_rfl) (.inr (.inl rfl)) (by kernel_rfl) (Nat.zero_le _) (by simp [Try.ntmps16]) ?_
  cbv
  ((try simp only [IfP_iff, and_true, true_and, decide_eq_true_eq, decide_eq_false_iff_not]); (try simp only [natc, getI_gi, at2_0, at2_1]); (try dsimp only [Ty.den]); (try simp only [natc] at *); (repeat' (first | apply And.intro | intro _)))
  all_goals (repeat' (first | ((first | refine call_q (Spec2.agg6 (t := (.pr .int (.sl (.sl .int)))) (x := fun _ => (n, L)) (im_isFormula n L hL hm hx)) (by cbv) ?_ | refine call_pure (Spec2.agg6 (t := (.pr .int (.sl (.sl .int)))) (x := fun _ => (n, L)) (im_isFormula n L hL hm hx)) (by cbv) ?_); cbv; ((try simp only [IfP_iff, and_true, true_and, decide_eq_true_eq, decide_eq_false_iff_not]); (try simp only [natc, getI_gi, at2_0, at2_1]); (try dsimp only [Ty.den]); (try simp only [natc] at *); (repeat' (first | apply And.intro | intro _)))) | ((first | refine call_q (im_areIndexes V n hV) (by cbv) ?_ | refine call_pure (im_areIndexes V n hV) (by cbv) ?_); cbv; ((try simp only [IfP_iff, and_true, true_and, decide_eq_true_eq, decide_eq_false_iff_not]); (try simp only [natc, getI_gi, at2_0, at2_1]); (try dsimp only [Ty.den]); (try simp only [natc] at *); (repeat' (first | apply And.intro | intro _))))))
  all_goals (try (simp only [IfP_iff, EqU_iff, Obl_iff, and_true, true_and, inI_iff, decide_eq_true_eq, decide_eq_false_iff_not]; (try simp only [natc, getI_gi, at2_0, at2_1]); (try dsimp only [Ty.den]); try simp only [natc] at *))
  iterate 2
    · refine EndG.nilR 25 3 .int [.box 1 1] [2] ?_
      cbv
      (simp only [IfP_iff, EqU_iff, Obl_iff, and_true, true_and, inI_iff, decide_eq_true_eq, decide_eq_false_iff_not]; (try simp only [natc, getI_gi, at2_0, at2_1]); (try dsimp only [Ty.den]); try simp only [natc] at *)
  exfalso
  clear hm hx
  grind
theorem im_neg_ok (n : Int) (L : List (List Int)) (V : List Int) (hL : L.length ≤ 1048576) (hm : ∀ r ∈ L, r.length ≤ 1048576) (hx : ∀ r ∈ L, ∀ x ∈ r, inI x) (hV : V.length ≤ 1048576) (hb : negOk n L V = true) : Spec2 Try.prog 16 [.agg (.pr .int (.sl (.sl .int))) fun _ => (n, L), .sl .int fun _ => V] [] [.cells [.int fun _ => n, .ref 0], .bool fun _ => true] [some (.rows 25 3 .int fun _ => L.map (negS V))] := by
  have h9 : negOk n L V = (formOk n L && ascB n V) := rfl
  rw [hb] at h9
  have hf : formOk n L = true := by grind
  have hrow : ∀ i : Int, 0 ≤ i → i < (L.length : Int) → (getR .int L i).length ≤ 1048576 ∧ ∀ k : Int, 0 ≤ k → k < ((getR .int L i).length : Int) → inI (gi (getR .int L i) k) ∧ inI (0 - gi (getR .int L i) k) := fun i a b => ⟨hm _ (getR_mem a b), fun k c d => by
    have := (form_row hf (getR_mem a b)).2 _ (gi_mem c d)
    unfold inI
    omega⟩
  refine fnG [.cst 4 2 27, .tmp 5] Try.func16 rfl (by decide) rfl (by kernel_rfl) (.inr (.inl rfl)) (by kernel_rfl) (Nat.zero_le _) (by simp [Try.ntmps16]) ?_
  cbv
  ((try simp only [IfP_iff, and_true, true_and, decide_eq_true_eq, decide_eq_false_iff_not]); (try simp only [natc, getI_gi, at2_0, at2_1]); (try dsimp only [Ty.den]); (try simp only [natc] at *); (repeat' (first | apply And.intro | intro _)))
  all_goals (repeat' (first | ((first | refine call_q (Spec2.agg6 (t := (.pr .int (.sl (.sl .int)))) (x := fun _ => (n, L)) (im_isFormula n L hL hm hx)) (by cbv) ?_ | refine call_pure (Spec2.agg6 (t := (.pr .int (.sl (.sl .int)))) (x := fun _ => (n, L)) (im_isFormula n L hL hm hx)) (by cbv) ?_); cbv; ((try simp only [IfP_iff, and_true, true_and, decide_eq_true_eq, decide_eq_false_iff_not]); (try simp only [natc, getI_gi, at2_0, at2_1]); (try dsimp only [Ty.den]); (try simp only [natc] at *); (repeat' (first | apply And.intro | intro _)))) | ((first | refine call_q (im_areIndexes V n hV) (by cbv) ?_ | refine call_pure (im_areIndexes V n hV) (by cbv) ?_); cbv; ((try simp only [IfP_iff, and_true, true_and, decide_eq_true_eq, decide_eq_false_iff_not]); (try simp only [natc, getI_gi, at2_0, at2_1]); (try dsimp only [Ty.den]); (try simp only [natc] at *); (repeat' (first | apply And.intro | intro _)))) | ((first | refine call_q (Spec2.agg6 (t := (.pr .int (.sl (.sl .int)))) (x := fun _ => (n, L)) (im_copyOf n L hL hm)) (by cbv) ?_ | refine call_pure (Spec2.agg6 (t := (.pr .int (.sl (.sl .int)))) (x := fun _ => (n, L)) (im_copyOf n L hL hm)) (by cbv) ?_); cbv; ((try simp only [IfP_iff, and_true, true_and, decide_eq_true_eq, decide_eq_false_iff_not]); (try simp only [natc, getI_gi, at2_0, at2_1]); (try dsimp only [Ty.den]); (try simp only [natc] at *); (repeat' (first | apply And.intro | intro _)))) | ((first | refine call_q (im_copyOf n L hL hm) (by cbv) ?_ | refine call_pure (im_copyOf n L hL hm) (by cbv) ?_); cbv; ((try simp only [IfP_iff, and_true, true_and, decide_eq_true_eq, decide_eq_false_iff_not]); (try simp only [natc, getI_gi, at2_0, at2_1]); (try dsimp only [Ty.den]); (try simp only [natc] at *); (repeat' (first | apply And.intro | intro _))))))
  all_goals (try clear hm hx)
  all_goals (try (simp only [IfP_iff, EqU_iff, Obl_iff, and_true, true_and, inI_iff, decide_eq_true_eq, decide_eq_false_iff_not]; (try simp only [natc, getI_gi, at2_0, at2_1]); (try dsimp only [Ty.den]); try simp only [natc] at *))
  iterate 2
    · exfalso
      clear hrow
      grind
  refine loopP (by kernel_rfl) (fun i : Int => 0 ≤ i ∧ i ≤ L.length) (fun i => [(27, .int fun _ => i)]) (fun i => [(2, some (.rows 25 3 .int fun _ => negL V L i.toNat))]) (fun i => (L.length - i).toNat) (· + 1) 0 (by omega) ?_ ?_
  · cbv
    (simp only [IfP_iff, EqU_iff, Obl_iff, and_true, true_and, inI_iff, decide_eq_true_eq, decide_eq_false_iff_not]; (try simp only [natc, getI_gi, at2_0, at2_1]); (try dsimp only [Ty.den]); try simp only [natc] at *)
    rfl
  · intro i hi
    have a1 := negL_len V L i.toNat
    have a2 := negL_at (V := V) (L := L) hi.1
    have a3 := negL_next (V := V) (L := L) hi.1
    have a4 : ¬ i < (L.length : Int) → negL V L i.toNat = L.map (negS V) := fun h => by rw [show i.toNat = L.length by omega, negL_all]
    have a5 := hrow i hi.1
    clear hrow
    cbv
    ((try simp only [IfP_iff, and_true, true_and, decide_eq_true_eq, decide_eq_false_iff_not]); (try simp only [natc, getI_gi, at2_0, at2_1]); (try dsimp only [Ty.den]); (try simp only [natc] at *); (repeat' (first | apply And.intro | intro _)))
    · (simp only [IfP_iff, EqU_iff, Obl_iff, and_true, true_and, inI_iff, decide_eq_true_eq, decide_eq_false_iff_not]; (try simp only [natc, getI_gi, at2_0, at2_1]); (try dsimp only [Ty.den]); try simp only [natc] at *)
      omega
    have b0 := a2 (by assumption)
    have b1 := (a5 (by assumption)).1
    have b2 := (a5 (by assumption)).2
    have b3 := negK_all V (getR .int L i)
    have b4 : setI (negL V L i.toNat) i (negK V (getR .int L i) 0) = negL V L i.toNat := by rw [negK_zero, ← b0, set_rowsame hi.1 (by omega)]
    have b5 : ∀ k : Nat, (negK V (getR .int L i) k).length = (getR .int L i).length := fun k => negK_len _ _ _
    have b6 : ∀ r : List Int, getR .int (setI (negL V L i.toNat) i r) i = r := fun r => getR_set hi.1 (by omega)
    have b7 : ∀ r : List Int, (setI (negL V L i.toNat) i r).length = L.length := fun r => by rw [setI_len, a1]
    clear a5 a2
    refine loopP (by kernel_rfl) (fun k : Int => 0 ≤ k ∧ k ≤ (getR .int L i).length) (fun k => [(33, .int fun _ => k)]) (fun k => [(2, some (.rows 25 3 .int fun _ => setI (negL V L i.toNat) i (negK V (getR .int L i) k.toNat)))]) (fun k => ((getR .int L i).length - k).toNat) (· + 1) 0 (by omega) ?_ ?_
    · cbv
      (simp only [IfP_iff, EqU_iff, Obl_iff, and_true, true_and, inI_iff, decide_eq_true_eq, decide_eq_false_iff_not]; (try simp only [natc, getI_gi, at2_0, at2_1]); (try dsimp only [Ty.den]); try simp only [natc] at *)
      exact b4.symm
    · intro k hk
      have c0 := b2 k hk.1
      have c1 := b5 k.toNat
      have c2 := b6 (negK V (getR .int L i) k.toNat)
      have c3 := negK_at (V := V) (r := getR .int L i) hk.1
      have c4 := negK_next (V := V) (r := getR .int L i) hk.1
      have c5 : k < ((getR .int L i).length : Int) → ¬ negB V (gi (getR .int L i) k) = true → negK V (getR .int L i) (k + 1).toNat = negK V (getR .int L i) k.toNat := fun a b => by
        rw [c4 a]
        unfold negX
        rw [if_neg b, ← c3 a, set_same hk.1 (by omega)]
      have c6 : k < ((getR .int L i).length : Int) → negB V (gi (getR .int L i) k) = true → negK V (getR .int L i) (k + 1).toNat = setI (negK V (getR .int L i) k.toNat) k (0 - gi (getR .int L i) k) := fun a b => by
        rw [c4 a]
        unfold negX
        rw [if_pos b]
      have c7 : ¬ k < ((getR .int L i).length : Int) → negK V (getR .int L i) k.toNat = (getR .int L i).map (negX V) := fun a => by rw [show k.toNat = (getR .int L i).length by omega, b3]
      have c8 := b7 (negK V (getR .int L i) k.toNat)
      have c9 : ∀ y : Int, setR .int (setI (negL V L i.toNat) i (negK V (getR .int L i) k.toNat)) i k y = setI (negL V L i.toNat) i (setI (negK V (getR .int L i) k.toNat) k y) := fun y => setR_row hi.1 (by omega)
      have c10 : negB V (gi (getR .int L i) k) = hasB V (varOf (gi (getR .int L i) k)) := rfl
      have c11 : k < ((getR .int L i).length : Int) → gi (getR .int (setI (negL V L i.toNat) i (negK V (getR .int L i) k.toNat)) i) k = gi (getR .int L i) k := fun a => by rw [c2, c3 a]
      have c12 : k < ((getR .int L i).length : Int) → inI (gi (getR .int (setI (negL V L i.toNat) i (negK V (getR .int L i) k.toNat)) i) k) := fun a => by rw [c11 a]; exact (c0 a).1
      have c13 : k < ((getR .int (negL V L i.toNat) i).length : Int) → inI (gi (getR .int (setI (negL V L i.toNat) i (negK V (getR .int L i) k.toNat)) i) k) := fun a => c12 (by rw [← b0]; exact a)
      have c14 : ((getR .int (negL V L i.toNat) i).length : Int) = (getR .int L i).length := by rw [b0]
      have c15 : (((getR .int (setI (negL V L i.toNat) i (negK V (getR .int L i) k.toNat)) i).length : Nat) : Int) = (getR .int L i).length := by rw [c2, c1]
      have c16 : ((setI (negL V L i.toNat) i (negK V (getR .int L i) k.toNat)).length : Int) = L.length := by rw [c8]
      have c17 : k < ((getR .int (negL V L i.toNat) i).length : Int) → hasB V (varOf (gi (getR .int (setI (negL V L i.toNat) i (negK V (getR .int L i) k.toNat)) i) k)) = negB V (gi (getR .int L i) k) := fun a => by rw [c11 (by omega)]; rfl
      have c18 : k < ((getR .int (negL V L i.toNat) i).length : Int) → hasB V (varOf (gi (getR .int (setI (negL V L i.toNat) i (negK V (getR .int L i) k.toNat)) i) k)) = true → setR .int (setI (negL V L i.toNat) i (negK V (getR .int L i) k.toNat)) i k (0 - gi (getR .int (setI (negL V L i.toNat) i (negK V (getR .int L i) k.toNat)) i) k) = setI (negL V L i.toNat) i (negK V (getR .int L i) (k + 1).toNat) := fun a b => by
        have a' : k < ((getR .int L i).length : Int) := by omega
        rw [c9, c11 a', c6 a' (by rw [← c17 a]; exact b)]
      have c19 : k < ((getR .int (negL V L i.toNat) i).length : Int) → hasB V (varOf (gi (getR .int (setI (negL V L i.toNat) i (negK V (getR .int L i) k.toNat)) i) k)) = false → setI (negL V L i.toNat) i (negK V (getR .int L i) k.toNat) = setI (negL V L i.toNat) i (negK V (getR .int L i) (k + 1).toNat) := fun a b => by
        have a' : k < ((getR .int L i).length : Int) := by omega
        rw [c5 a' (by rw [← c17 a, b]; decide)]
      have c20 : ¬ k < ((getR .int (negL V L i.toNat) i).length : Int) → setI (setI (negL V L i.toNat) i (negK V (getR .int L i) k.toNat)) i (srt (negK V (getR .int L i) k.toNat)) = negL V L (i + 1).toNat := fun a => by
        rw [setI_twice, c7 (by omega), a3 (by assumption)]
        rfl
      have c21 : (negK V (getR .int L i) k.toNat).length ≤ 1048576 := by omega
      have c22 : i < ((setI (negL V L i.toNat) i (negK V (getR .int L i) k.toNat)).length : Int) := by omega
      have c23 : k < ((getR .int (negL V L i.toNat) i).length : Int) → -9223372036854775808 ≤ 0 - gi (getR .int (setI (negL V L i.toNat) i (negK V (getR .int L i) k.toNat)) i) k ∧ 0 - gi (getR .int (setI (negL V L i.toNat) i (negK V (getR .int L i) k.toNat)) i) k ≤ 9223372036854775807 := fun a => by rw [c11 (by omega)]; exact inI_iff.1 (c0 (by omega)).2
      clear b2 b6 b7 b5 c4 c12 c5 c6 c7 c9 c11 c3
      cbv
      ((try simp only [IfP_iff, and_true, true_and, decide_eq_true_eq, decide_eq_false_iff_not]); (try simp only [natc, getI_gi, at2_0, at2_1]); (try dsimp only [Ty.den]); (try simp only [natc] at *); (repeat' (first | apply And.intro | intro _)))
      all_goals (repeat' (first | ((first | refine call_q (im_variableOf _ (c13 (by assumption))) (by cbv) ?_ | refine call_pure (im_variableOf _ (c13 (by assumption))) (by cbv) ?_); cbv; ((try simp only [IfP_iff, and_true, true_and, decide_eq_true_eq, decide_eq_false_iff_not]); (try simp only [natc, getI_gi, at2_0, at2_1]); (try dsimp only [Ty.den]); (try simp only [natc] at *); (repeat' (first | apply And.intro | intro _)))) | ((first | refine call_q (go_contains V _ hV) (by cbv) ?_ | refine call_pure (go_contains V _ hV) (by cbv) ?_); cbv; ((try simp only [IfP_iff, and_true, true_and, decide_eq_true_eq, decide_eq_false_iff_not]); (try simp only [natc, getI_gi, at2_0, at2_1]); (try dsimp only [Ty.den]); (try simp only [natc] at *); (repeat' (first | apply And.intro | intro _))))))
      all_goals (try (refine call_own 2 (Spec2.elem0 (t := .int) (e := 25) (e2 := 3) (i := i) (L := setI (negL V L i.toNat) i (negK V (getR .int L i) k.toNat)) (l := negK V (getR .int L i) k.toNat) rfl hi.1 c22 c2 (go_sort _ c21)) (by cbv) (by cbv; simp only [or_true, true_or, and_true]) ?_; cbv; ((try simp only [IfP_iff, and_true, true_and, decide_eq_true_eq, decide_eq_false_iff_not]); (try simp only [natc, getI_gi, at2_0, at2_1]); (try dsimp only [Ty.den]); (try simp only [natc] at *); (repeat' (first | apply And.intro | intro _)))))
      all_goals (try (simp only [IfP_iff, EqU_iff, Obl_iff, and_true, true_and, inI_iff, decide_eq_true_eq, decide_eq_false_iff_not]; (try simp only [natc, getI_gi, at2_0, at2_1]); (try dsimp only [Ty.den]); try simp only [natc] at *))
      all_goals ((repeat' (first | apply And.intro | intro _)) <;> first | omega | exact c18 (by assumption) (by assumption) | exact c19 (by assumption) (by assumption) | exact c20 (by assumption) | exact c23 (by assumption) | grind | (trace_state; fail))
    · refine EndG.plain [2] ?_
      cbv
      (simp only [IfP_iff, EqU_iff, Obl_iff, and_true, true_and, inI_iff, decide_eq_true_eq, decide_eq_false_iff_not]; (try simp only [natc, getI_gi, at2_0, at2_1]); (try dsimp only [Ty.den]); try simp only [natc] at *)
      rw [a4 (by assumption)]
end Go.Proofs.Ytcgeedklfejhbaa.M

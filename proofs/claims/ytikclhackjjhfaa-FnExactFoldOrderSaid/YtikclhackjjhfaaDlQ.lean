/- slices.DeleteFunc on a row of the call's own. -/
import Derived.Test.YtikclhackjjhfaaEcQ
import Derived.Test.YtikclhackjjhfaaHsQ
import Derived.Test.YtikclhackjjhfaaQg
namespace Go.Proofs.Ytikclhackjjhfaa.M
open Go.RowKit Abs
set_option linter.unusedSimpArgs false
set_option linter.unusedVariables false
set_option maxRecDepth 100000
set_option maxHeartbeats 4000000
def keepL (p : Int → Bool) (l : List Int) (j : Nat) : List Int := (l.take j).filter fun x => !p x
def rowD (p : Int → Bool) (l : List Int) : Nat → List Int
  | 0 => l
  | j + 1 => if p (gi l j) = true then rowD p l j else setI (rowD p l j) (keepL p l j).length (gi l j)
theorem keep_le (p : Int → Bool) (l : List Int) (j : Nat) : (keepL p l j).length ≤ j := by
  unfold keepL
  have := List.length_filter_le (fun x => !p x) (l.take j)
  rw [List.length_take] at this
  omega
theorem keep_next {p : Int → Bool} {l : List Int} {j : Nat} (h : j < l.length) : keepL p l (j + 1) = keepL p l j ++ if p (gi l j) = true then [] else [gi l j] := by
  unfold keepL
  have := take_gi (l := l) (i := (j : Int)) (by omega) (by omega)
  rw [show ((j : Int) + 1).toNat = j + 1 by omega, show ((j : Int)).toNat = j by omega] at this
  rw [this, List.filter_append]
  by_cases hp : p (gi l j) = true
  · simp [List.filter, hp]
  · simp [List.filter, hp]
theorem keep_all (p : Int → Bool) (l : List Int) : keepL p l l.length = l.filter fun x => !p x := by unfold keepL; rw [List.take_length]
theorem rowD_spec (p : Int → Bool) (l : List Int) : ∀ j, j ≤ l.length → (rowD p l j).length = l.length ∧ (rowD p l j).take (keepL p l j).length = keepL p l j ∧ (rowD p l j).drop j = l.drop j
  | 0, _ => ⟨rfl, by simp [keepL], rfl⟩
  | j + 1, h => by
    obtain ⟨h1, h2, h3⟩ := rowD_spec p l j (by omega)
    have hk := keep_le p l j
    have hd : ∀ (r : List Int), r.drop j = l.drop j → r.drop (j + 1) = l.drop (j + 1) := fun r hr => by
      rw [show j + 1 = j + 1 from rfl, ← List.drop_drop, hr, List.drop_drop]
    rw [keep_next (by omega)]
    unfold rowD
    cases hp : p (gi l j) with
    | true =>
      simp only [if_true, List.append_nil]
      exact ⟨h1, h2, hd _ h3⟩
    | false =>
      simp only [Bool.false_eq_true, if_false]
      refine ⟨by rw [setI_len, h1], ?_, ?_⟩
      · unfold setI
        rw [List.length_append, List.length_cons, List.length_nil, Nat.zero_add, List.take_add_one, show (((keepL p l j).length : Int)).toNat = (keepL p l j).length by omega, List.take_set_of_le (Nat.le_refl _), List.getElem?_set_self (by rw [h1]; omega), h2]
        rfl
      · have h4 := hd _ h3
        unfold setI
        rw [List.drop_set_of_lt (by omega)]
        exact h4
theorem rowD_at {p : Int → Bool} {l : List Int} {j : Int} (h0 : 0 ≤ j) (h1 : j < l.length) : gi (rowD p l j.toNat) j = gi l j := by
  obtain ⟨_, _, h3⟩ := rowD_spec p l j.toNat (by omega)
  have h4 := congrArg (fun r => r[0]?) h3
  simp only [List.getElem?_drop, Nat.add_zero] at h4
  unfold gi
  rw [List.getD_eq_getElem?_getD, List.getD_eq_getElem?_getD, h4]
theorem rowD_start {p : Int → Bool} {l : List Int} : ∀ {j : Nat}, j ≤ l.length → (∀ k : Nat, k < j → p (gi l k) = false) → rowD p l j = l ∧ keepL p l j = l.take j
  | 0, _, _ => ⟨rfl, by simp [keepL]⟩
  | j + 1, h, hn => by
    obtain ⟨h1, h2⟩ := rowD_start (j := j) (by omega) fun k hk => hn k (by omega)
    have h3 := hn j (by omega)
    have ht := take_gi (l := l) (i := (j : Int)) (by omega) (by omega)
    rw [show ((j : Int) + 1).toNat = j + 1 by omega, show ((j : Int)).toNat = j by omega] at ht
    refine ⟨?_, by rw [keep_next (by omega), h2, h3, ht]; rfl⟩
    unfold rowD
    rw [h3, h1, h2]
    simp only [Bool.false_eq_true, if_false]
    unfold setI gi
    have e1 : ((List.take j l).length : Int).toNat = j := by rw [List.length_take]; omega
    rw [e1, show ((j : Int)).toNat = j by omega, List.getD_eq_getElem?_getD, List.getElem?_eq_getElem (by omega)]
    simp
theorem findI_cases (l : List Int) (p : Int → Bool) : (findI l p = -1 ∧ (l.filter fun x => !p x) = l) ∨ ∃ i : Nat, findI l p = i ∧ i < l.length ∧ rowD p l (i + 1) = l ∧ (keepL p l (i + 1)).length = i := by
  cases h : l.findIdx? p with
  | none =>
    left
    rw [List.findIdx?_eq_none_iff] at h
    refine ⟨by unfold findI; rw [List.findIdx?_eq_none_iff.2 h], List.filter_eq_self.2 fun x hx => by rw [h x hx]; rfl⟩
  | some i =>
    right
    have e : findI l p = i := by unfold findI; rw [h]
    rw [List.findIdx?_eq_some_iff_getElem] at h
    obtain ⟨h1, h2, h3⟩ := h
    have g : ∀ (k : Nat) (hk : k < l.length), gi l k = l[k] := fun k hk => by
      unfold gi
      rw [show ((k : Int)).toNat = k by omega, List.getD_eq_getElem?_getD, List.getElem?_eq_getElem hk]; rfl
    obtain ⟨s1, s2⟩ := rowD_start (p := p) (l := l) (j := i) (by omega) fun k hk => by
      have := h3 k hk
      rw [g k (by omega)]
      simpa using this
    refine ⟨i, e, h1, ?_, ?_⟩
    · unfold rowD
      rw [g i h1, h2]
      simpa using s1
    · rw [keep_next h1, s2, g i h1, h2]
      simp
      omega
theorem cpy_take {l y : List Int} {lo hi : Int} (h0 : 0 ≤ lo) (h1 : lo ≤ l.length) : (cpy l y lo hi).take lo.toNat = l.take lo.toNat := by
  unfold cpy
  rw [List.append_assoc, List.take_append_of_le_length (by rw [List.length_take]; omega), List.take_take, Nat.min_self]
theorem go_delF (f : FuncId) (c : Unit → CapR) (p : Int → Bool) (l : List Int) (hl : l.length ≤ 1048576) (hf : ∀ x ∈ l, Fn1 Try.prog tab f c [.int fun _ => x] [.bool fun _ => p x]) :
    Spec2 Try.prog 101 [.ref 0, .fnr f c] [some (.row 3 .int fun _ => l)] [.ref 1] [none, some (.row 3 .int fun _ => l.filter fun x => !p x)] := by
  have hfg : ∀ j : Int, 0 ≤ j → j < l.length → Fn1 Try.prog tab f c [.int fun _ => gi l j] [.bool fun _ => p (gi l j)] := fun j j0 j1 => hf _ (gi_mem j0 j1)
  rcases findI_cases l p with ⟨hi, hfl⟩ | ⟨i, hi, hil, hs1, hs2⟩
  · rw [hfl]
    refine fnG [.tmp 4] Try.func101 rfl (by decide) rfl (by kernel_rfl) (.inl rfl) (by kernel_rfl) (by simp) (by simp [Try.ntmps101]) ?_
    cbv
    repeat' (first | ((first | refine call_q (go_indexF f c p l hl hf) (by cbv) ?_ | refine call_pure (go_indexF f c p l hl hf) (by cbv) ?_); cbv; ((try simp only [IfP_iff, and_true, true_and, decide_eq_true_eq, decide_eq_false_iff_not]); (try simp only [natc, getI_gi, at2_0, at2_1]); (try dsimp only [Ty.den]); (try simp only [natc] at *); (repeat' (first | apply And.intro | intro _)))))
    all_goals (try (simp only [IfP_iff, EqU_iff, Obl_iff, and_true, true_and, inI_iff, decide_eq_true_eq, decide_eq_false_iff_not]; (try simp only [natc, getI_gi, at2_0, at2_1]); (try dsimp only [Ty.den]); try simp only [natc] at *))
    ((try simp only [IfP_iff, and_true, true_and, decide_eq_true_eq, decide_eq_false_iff_not]); (try simp only [natc, getI_gi, at2_0, at2_1]); (try dsimp only [Ty.den]); (try simp only [natc] at *); (repeat' (first | apply And.intro | intro _)))
    all_goals (try (exact absurd hi (by assumption)))
    refine EndG.cut 4 0 [0, 1] trivial ?_
    cbv
    (simp only [IfP_iff, EqU_iff, Obl_iff, and_true, true_and, inI_iff, decide_eq_true_eq, decide_eq_false_iff_not]; (try simp only [natc, getI_gi, at2_0, at2_1]); (try dsimp only [Ty.den]); try simp only [natc] at *)
  · have b1 : (keepL p l l.length).length ≤ l.length := keep_le p l _
    have b2 := cpy_take (l := rowD p l l.length) (y := List.replicate ((l.length : Int) - (keepL p l l.length).length).toNat 0) (lo := ((keepL p l l.length).length : Int)) (hi := (l.length : Int)) (by omega) (by rw [(rowD_spec p l _ (Nat.le_refl _)).1]; omega)
    have b3 := (rowD_spec p l _ (Nat.le_refl _)).2.1
    have b4 := (rowD_spec p l _ (Nat.le_refl _)).1
    rw [show (((keepL p l l.length).length : Int)).toNat = (keepL p l l.length).length by omega, b3, keep_all] at b2
    refine fnG [.tmp 4] Try.func101 rfl (by decide) rfl (by kernel_rfl) (.inl rfl) (by kernel_rfl) (by simp) (by simp [Try.ntmps101]) ?_
    cbv
    repeat' (first | ((first | refine call_q (go_indexF f c p l hl hf) (by cbv) ?_ | refine call_pure (go_indexF f c p l hl hf) (by cbv) ?_); cbv; ((try simp only [IfP_iff, and_true, true_and, decide_eq_true_eq, decide_eq_false_iff_not]); (try simp only [natc, getI_gi, at2_0, at2_1]); (try dsimp only [Ty.den]); (try simp only [natc] at *); (repeat' (first | apply And.intro | intro _)))))
    all_goals (try (simp only [IfP_iff, EqU_iff, Obl_iff, and_true, true_and, inI_iff, decide_eq_true_eq, decide_eq_false_iff_not]; (try simp only [natc, getI_gi, at2_0, at2_1]); (try dsimp only [Ty.den]); try simp only [natc] at *))
    ((try simp only [IfP_iff, and_true, true_and, decide_eq_true_eq, decide_eq_false_iff_not]); (try simp only [natc, getI_gi, at2_0, at2_1]); (try dsimp only [Ty.den]); (try simp only [natc] at *); (repeat' (first | apply And.intro | intro _)))
    all_goals (try (exact absurd (by assumption : findI l p = -1) (by rw [hi]; omega)))
    all_goals (try omega)
    refine loopP (by kernel_rfl) (fun j : Int => (i : Int) + 1 ≤ j ∧ j ≤ l.length) (fun j => [(5, .int fun _ => ((keepL p l j.toNat).length : Int)), (6, .int fun _ => j), (7, .junk)]) (fun j => [(0, some (.row 3 .int fun _ => rowD p l j.toNat))]) (fun j => (l.length - j).toNat) (· + 1) ((i : Int) + 1) (by omega) ?_ ?_
    · cbv
      (simp only [IfP_iff, EqU_iff, Obl_iff, and_true, true_and, inI_iff, decide_eq_true_eq, decide_eq_false_iff_not]; (try simp only [natc, getI_gi, at2_0, at2_1]); (try dsimp only [Ty.den]); try simp only [natc] at *)
      rw [hi, show ((i : Int) + 1).toNat = i + 1 by omega, hs1, hs2]
      (repeat' (first | apply And.intro | intro _)) <;> first | omega | rfl
    · intro j hj
      have h1 := (rowD_spec p l j.toNat (by omega)).1
      have h3 := keep_le p l j.toNat
      have h2 := fun h => rowD_at (p := p) (l := l) (j := j) (by omega) h
      have hf2 : j < l.length → Fn1 Try.prog tab f c [.int fun _ => gi (rowD p l j.toNat) j] [.bool fun _ => p (gi l j)] := fun h => by rw [h2 h]; exact hfg j (by omega) h
      have h4 : j < l.length → keepL p l (j + 1).toNat = keepL p l j.toNat ++ if p (gi l j) = true then [] else [gi l j] := fun h => by
        have := keep_next (p := p) (l := l) (j := j.toNat) (by omega)
        rw [show ((j.toNat : Nat) : Int) = j by omega] at this
        rw [show (j + 1).toNat = j.toNat + 1 by omega]
        exact this
      have h5 : j < l.length → rowD p l (j + 1).toNat = if p (gi l j) = true then rowD p l j.toNat else setI (rowD p l j.toNat) (keepL p l j.toNat).length (gi l j) := fun h => by
        rw [show (j + 1).toNat = j.toNat + 1 by omega]
        conv => lhs; unfold rowD
        rw [show ((j.toNat : Nat) : Int) = j by omega]
      have e4 : j < l.length → (!p (gi l j)) = true → ((keepL p l (j + 1).toNat).length : Int) = (keepL p l j.toNat).length + 1 := fun h hp => by
        rw [h4 h, if_neg (by simpa using hp), List.length_append, List.length_cons, List.length_nil]; omega
      have e5 : j < l.length → (!p (gi l j)) = true → setI (rowD p l j.toNat) (keepL p l j.toNat).length (gi l j) = rowD p l (j + 1).toNat := fun h hp => by
        rw [h5 h, if_neg (by simpa using hp)]
      have d4 : j < l.length → (!p (gi l j)) = false → ((keepL p l (j + 1).toNat).length : Int) = (keepL p l j.toNat).length := fun h hp => by
        rw [h4 h, if_pos (by simpa using hp), List.append_nil]
      have d5 : j < l.length → (!p (gi l j)) = false → rowD p l j.toNat = rowD p l (j + 1).toNat := fun h hp => by
        rw [h5 h, if_pos (by simpa using hp)]
      have e6 : ¬ j < l.length → (rowD p l j.toNat).take (((keepL p l j.toNat).length : Int)).toNat = l.filter fun x => !p x := fun h => by
        rw [show (((keepL p l j.toNat).length : Int)).toNat = (keepL p l j.toNat).length by omega, (rowD_spec p l j.toNat (by omega)).2.1, show j.toNat = l.length by omega, keep_all]
      clear h4 h5 hs1 hs2 b1 b2 b3 b4 hi hf hfg
      cbv
      ((try simp only [IfP_iff, and_true, true_and, decide_eq_true_eq, decide_eq_false_iff_not]); (try simp only [natc, getI_gi, at2_0, at2_1]); (try dsimp only [Ty.den]); (try simp only [natc] at *); (repeat' (first | apply And.intro | intro _)))
      all_goals (try ((first | refine call_fnq (hf2 (by omega)) rfl (by cbv) ?_ | refine call_fn (hf2 (by omega)) rfl (by cbv) ?_); cbv; ((try simp only [IfP_iff, and_true, true_and, decide_eq_true_eq, decide_eq_false_iff_not]); (try simp only [natc, getI_gi, at2_0, at2_1]); (try dsimp only [Ty.den]); (try simp only [natc] at *); (repeat' (first | apply And.intro | intro _)))))
      all_goals (try ((try simp only [IfP_iff, and_true, true_and, decide_eq_true_eq, decide_eq_false_iff_not]); (try simp only [natc, getI_gi, at2_0, at2_1]); (try dsimp only [Ty.den]); (try simp only [natc] at *); (repeat' (first | apply And.intro | intro _))))
      all_goals (try (refine EndG.cut 4 0 [0, 1] rfl ?_; cbv))
      all_goals (try (simp only [IfP_iff, EqU_iff, Obl_iff, and_true, true_and, inI_iff, decide_eq_true_eq, decide_eq_false_iff_not]; (try simp only [natc, getI_gi, at2_0, at2_1]); (try dsimp only [Ty.den]); try simp only [natc] at *))
      all_goals ((repeat' (first | apply And.intro | intro _)) <;> first | omega | (rw [h2 (by omega)]; exact e5 (by omega) (by assumption)) | (rw [cpy_take (by omega) (by omega)]; exact e6 (by omega)) | (refine Int.le_trans ?_ (Int.le_of_eq (congrArg Nat.cast (cpy_len (by omega) (by omega) (by omega)).symm)); omega) | (exact d5 (by omega) (by assumption)) | (have q1 := e4 (by omega) (by assumption); omega) | (have q1 := d4 (by omega) (by assumption); omega) | trace_state)
end Go.Proofs.Ytikclhackjjhfaa.M

/- Negated variables of a Formula (pure). -/
import Derived.Test.YtcgeedklfejhbaaSoQ
import Derived.Test.YtcgeedklfejhbaaTuQ
import Derived.Test.YtcgeedklfejhbaaIgQ
import Derived.Test.YtcgeedklfejhbaaFoQ
import Derived.Test.YtcgeedklfejhbaaQc
namespace Go.Proofs.Ytcgeedklfejhbaa.M
open Go.RowKit Abs
set_option linter.unusedSimpArgs false
set_option linter.unusedVariables false
set_option maxRecDepth 100000
set_option maxHeartbeats 4000000
def negB (V : List Int) (x : Int) : Bool := hasB V (varOf x)
def negX (V : List Int) (x : Int) : Int := if negB V x = true then 0 - x else x
def putF (l : List Int) : List Int := l.foldl putI []
def negS (V r : List Int) : List Int := srt (r.map (negX V))
theorem putI_perm (s : List Int) (x : Int) : (putI s x).Perm (x :: s) := by
  unfold putI
  rw [List.append_assoc]
  refine List.perm_middle.trans ?_
  show (x :: (s.take (kOf s x).toNat ++ s.drop (kOf s x).toNat)).Perm (x :: s)
  rw [List.take_append_drop]
theorem putF_snoc (l : List Int) (x : Int) : putF (l ++ [x]) = putI (putF l) x := by
  unfold putF
  rw [List.foldl_append]
  rfl
theorem putF_perm : ∀ (n : Nat) (l : List Int), l.length = n → (putF l).Perm l
  | 0, l, h => by rw [List.length_eq_zero_iff.1 h]; exact List.Perm.refl _
  | n + 1, l, h => by
    obtain ⟨a, x, rfl⟩ : ∃ a x, l = a ++ [x] := ⟨l.dropLast, l.getLast (by intro e; rw [e] at h; simp at h), (List.dropLast_concat_getLast _).symm⟩
    rw [putF_snoc]
    refine (putI_perm _ _).trans ?_
    refine ((putF_perm n a (by simpa using h)).cons x).trans ?_
    exact (List.perm_append_singleton _ _).symm
theorem putF_mem {l : List Int} {x : Int} : x ∈ putF l ↔ x ∈ l := (putF_perm _ l rfl).mem_iff
theorem putF_asc : ∀ (n : Nat) (l : List Int), l.length = n → l.Nodup → (putF l).Pairwise (· < ·)
  | 0, l, h, _ => by rw [List.length_eq_zero_iff.1 h]; exact List.Pairwise.nil
  | n + 1, l, h, hn => by
    obtain ⟨a, x, rfl⟩ : ∃ a x, l = a ++ [x] := ⟨l.dropLast, l.getLast (by intro e; rw [e] at h; simp at h), (List.dropLast_concat_getLast _).symm⟩
    rw [List.nodup_append] at hn
    rw [putF_snoc]
    refine putI_asc (putF_asc n a (by simpa using h) hn.1) fun hx => ?_
    exact hn.2.2 x (putF_mem.1 hx) x (by simp) rfl
theorem putF_srt {l : List Int} (h : l.Nodup) : putF l = srt l := by
  refine List.Perm.eq_of_pairwise (le := fun a b : Int => a ≤ b) (fun a b _ _ h1 h2 => Int.le_antisymm h1 h2) ((putF_asc _ l rfl h).imp fun h => Int.le_of_lt h) (srt_asc l) ?_
  exact (putF_perm _ l rfl).trans (srt_perm l).symm
theorem negX_inj {V : List Int} {x y : Int} (hx : x ≠ 0) (hy : y ≠ 0) (h : negX V x = negX V y) : x = y := by
  have e : varOf x = varOf y → negB V x = negB V y := fun e => by unfold negB; rw [e]
  unfold negX at h
  by_cases a : negB V x = true
  · rw [if_pos a] at h
    by_cases b : negB V y = true
    · rw [if_pos b] at h; omega
    · rw [if_neg b] at h
      have : varOf x = varOf y := by
        unfold varOf
        rw [← h]
        split <;> split <;> omega
      exact absurd (e this ▸ a) b
  · rw [if_neg a] at h
    by_cases b : negB V y = true
    · rw [if_pos b] at h
      have : varOf x = varOf y := by
        unfold varOf
        rw [h]
        split <;> split <;> omega
      exact absurd ((e this).symm ▸ b) a
    · rw [if_neg b] at h; exact h
theorem neg_nodup {V r : List Int} (hn : r.Pairwise (· < ·)) (h0 : ∀ x ∈ r, x ≠ 0) : (r.map (negX V)).Nodup := by
  unfold List.Nodup
  rw [List.pairwise_map]
  exact hn.imp_of_mem fun ha hb hlt he => by
    have := negX_inj (h0 _ ha) (h0 _ hb) he
    omega
theorem inc_pw {s : List Int} (h : incB s = true) : s.Pairwise (· < ·) := by
  have h1 : ∀ k : Nat, k + 1 < s.length → (getI .int s (k : Int) : Int) < getI .int s ((k : Int) + 1) := fun k hk => by
    have := allI_get h (k := (k : Int) + 1) (by omega) (by omega)
    unfold incOk at this
    simp only [Bool.or_eq_true, decide_eq_true_eq] at this
    rcases this with e | e
    · omega
    · rwa [show (k : Int) + 1 - 1 = k by omega] at e
  rw [List.pairwise_iff_getElem]
  intro i j hi hj hij
  have key : ∀ d : Nat, i + d + 1 < s.length → (getI .int s (i : Int) : Int) < getI .int s ((i + d + 1 : Nat) : Int) := fun d => by
    induction d with
    | zero => intro h; exact h1 i h
    | succ d ih =>
      intro h
      refine Int.lt_trans (ih (by omega)) ?_
      have := h1 (i + d + 1) (by omega)
      rwa [show ((i + d + 1 : Nat) : Int) + 1 = ((i + (d + 1) + 1 : Nat) : Int) by omega] at this
  have := key (j - i - 1) (by omega)
  rw [show i + (j - i - 1) + 1 = j by omega, elem_getI hi, elem_getI hj] at this
  exact this
/-- What is known of a clause. -/
theorem form_row {n : Int} {L : List (List Int)} {c : List Int} (h : formOk n L = true) (hc : c ∈ L) : c.Pairwise (· < ·) ∧ ∀ x ∈ c, x ≠ 0 ∧ -6 ≤ x ∧ x ≤ 6 := by
  unfold formOk at h
  simp only [Bool.and_eq_true, decide_eq_true_eq, Bool.not_eq_true', List.any_eq_false] at h
  obtain ⟨⟨⟨a, b⟩, _⟩, d⟩ := h
  have h1 := d c hc
  unfold badC clauseB at h1
  simp only [Bool.not_eq_true', Bool.not_eq_false, Bool.and_eq_true, List.any_eq_false] at h1
  refine ⟨inc_pw h1.1, fun x hx => ?_⟩
  have h2 := h1.2 x hx
  unfold otherB outI varOf at h2
  simp only [Bool.not_eq_true', Bool.not_eq_false, Bool.and_eq_true, decide_eq_true_eq] at h2
  split at h2 <;> omega
def negK (V r : List Int) (k : Nat) : List Int := (r.take k).map (negX V) ++ r.drop k
theorem negK_len (V r : List Int) (k : Nat) : (negK V r k).length = r.length := by
  unfold negK
  rw [List.length_append, List.length_map, List.length_take, List.length_drop]
  omega
theorem negK_zero (V r : List Int) : negK V r 0 = r := rfl
theorem negK_all (V r : List Int) : negK V r r.length = r.map (negX V) := by
  unfold negK
  rw [List.take_length, List.drop_length, List.append_nil]
theorem negK_at {V r : List Int} {k : Int} (h0 : 0 ≤ k) (h1 : k < (r.length : Int)) : gi (negK V r k.toNat) k = gi r k := by
  unfold gi negK
  rw [List.getD_eq_getElem?_getD, List.getD_eq_getElem?_getD, List.getElem?_append_right (by rw [List.length_map, List.length_take]; omega), List.length_map, List.length_take, List.getElem?_drop, show k.toNat + (k.toNat - min k.toNat r.length) = k.toNat by omega]
theorem negK_next {V r : List Int} {k : Int} (h0 : 0 ≤ k) (h1 : k < (r.length : Int)) : negK V r (k + 1).toNat = setI (negK V r k.toNat) k (negX V (gi r k)) := by
  have e : r.drop k.toNat = gi r k :: r.drop (k + 1).toNat := by
    rw [show (k + 1).toNat = k.toNat + 1 by omega, List.drop_eq_getElem_cons (by omega)]
    congr 1
    unfold gi
    rw [List.getD_eq_getElem?_getD, List.getElem?_eq_getElem (by omega)]
    rfl
  unfold negK setI
  rw [take_gi h0 h1, e, List.set_append_right _ _ (by rw [List.length_map, List.length_take]; omega), List.length_map, List.length_take, show k.toNat - min k.toNat r.length = 0 by omega, List.set_cons_zero, List.map_append, List.append_assoc]
  rfl
theorem set_same {r : List Int} {k : Int} (h0 : 0 ≤ k) (h1 : k < (r.length : Int)) : setI r k (gi r k) = r := by
  unfold setI gi
  rw [List.getD_eq_getElem?_getD, List.getElem?_eq_getElem (by omega)]
  simp
def negL (V : List Int) (L : List (List Int)) (i : Nat) : List (List Int) := (L.take i).map (negS V) ++ L.drop i
theorem negL_len (V : List Int) (L : List (List Int)) (i : Nat) : (negL V L i).length = L.length := by
  unfold negL
  rw [List.length_append, List.length_map, List.length_take, List.length_drop]
  omega
theorem negL_at {V : List Int} {L : List (List Int)} {i : Int} (h0 : 0 ≤ i) (h1 : i < (L.length : Int)) : getR .int (negL V L i.toNat) i = getR .int L i := by
  unfold getR negL
  rw [List.getD_eq_getElem?_getD, List.getD_eq_getElem?_getD, List.getElem?_append_right (by rw [List.length_map, List.length_take]; omega), List.length_map, List.length_take, List.getElem?_drop, show i.toNat + (i.toNat - min i.toNat L.length) = i.toNat by omega]
theorem negL_next {V : List Int} {L : List (List Int)} {i : Int} (h0 : 0 ≤ i) (h1 : i < (L.length : Int)) : negL V L (i + 1).toNat = setI (negL V L i.toNat) i (negS V (getR .int L i)) := by
  have e : L.drop i.toNat = getR .int L i :: L.drop (i + 1).toNat := by
    rw [show (i + 1).toNat = i.toNat + 1 by omega, List.drop_eq_getElem_cons (by omega)]
    congr 1
    unfold getR
    rw [List.getD_eq_getElem?_getD, List.getElem?_eq_getElem (by omega)]
    rfl
  unfold negL setI
  rw [take_nextR h0 h1, e, List.set_append_right _ _ (by rw [List.length_map, List.length_take]; omega), List.length_map, List.length_take, show i.toNat - min i.toNat L.length = 0 by omega, List.set_cons_zero, List.map_append, List.append_assoc]
  rfl
theorem negL_all (V : List Int) (L : List (List Int)) : negL V L L.length = L.map (negS V) := by
  unfold negL
  rw [List.take_length, List.drop_length, List.append_nil]
theorem setI_twice {α : Type} (l : List α) (i : Int) (a b : α) : setI (setI l i a) i b = setI l i b := by
  unfold setI
  rw [List.set_set]
theorem getR_set {L : List (List Int)} {i : Int} {r : List Int} (h0 : 0 ≤ i) (h1 : i < (L.length : Int)) : getR .int (setI L i r) i = r := by
  unfold getR setI
  rw [List.getD_eq_getElem?_getD, List.getElem?_set_self (by omega)]
  rfl
theorem setR_row {L : List (List Int)} {i j : Int} {r : List Int} {y : Int} (h0 : 0 ≤ i) (h1 : i < (L.length : Int)) : setR .int (setI L i r) i j y = setI L i (setI r j y) := by
  unfold setR
  rw [getR_set h0 h1]
  unfold setI
  rw [List.set_set]
theorem set_rowsame {L : List (List Int)} {i : Int} (h0 : 0 ≤ i) (h1 : i < (L.length : Int)) : setI L i (getR .int L i) = L := by
  unfold setI getR
  rw [List.getD_eq_getElem?_getD, List.getElem?_eq_getElem (by omega)]
  simp
end Go.Proofs.Ytcgeedklfejhbaa.M

/- What the program answers: the lists of neighbours. -/
import Derived.Test.YtbkdmnohpjihgaaNi
namespace Go.Proofs.Ytbkdmnohpjihgaa.M
open Go.RowKit Abs
set_option linter.unusedSimpArgs false
set_option linter.unusedVariables false
set_option maxRecDepth 100000
theorem im_isIndex (a b : Int) : Spec2 Try.prog 60 [.int fun _ => a, .int fun _ => b] [] [.bool fun _ => decide (0 ≤ a) && decide (a < b)] [] := by
  refine fnS [] [4] Try.func60 rfl (by decide) rfl (by decide) (by kernel_rfl) rfl (by simp [Try.ntmps60]) ?_
  cbv
  simp only [IfP_iff, EqU_iff, Obl_iff, and_true, true_and, inI_iff, decide_eq_true_eq, decide_eq_false_iff_not]
  grind
/-- The rows of neighbours, after the first edges. -/
def put1 (L : List (List Int)) (e : Int × Int) : List (List Int) := setI (setI L e.1 (getR .int L e.1 ++ [e.2])) e.2 (getR .int (setI L e.1 (getR .int L e.1 ++ [e.2])) e.2 ++ [e.1])
def nearR (m : List (Int × Int)) (n : Int) : List (List Int) := m.foldl put1 (List.replicate n.toNat [])
theorem put1_len (L : List (List Int)) (e : Int × Int) : (put1 L e).length = L.length := by simp [put1, setI]
theorem nearR_len (m : List (Int × Int)) (n : Int) : (nearR m n).length = n.toNat := by
  have : ∀ (m : List (Int × Int)) (L : List (List Int)), (m.foldl put1 L).length = L.length := fun m => by
    induction m with
    | nil => intro L; rfl
    | cons e m ih => intro L; rw [List.foldl_cons, ih, put1_len]
  unfold nearR
  rw [this]
  simp
theorem nearR_next {m : List (Int × Int)} {n k : Int} (h0 : 0 ≤ k) (h1 : k < (m.length : Int)) : nearR (m.take (k + 1).toNat) n = put1 (nearR (m.take k.toNat) n) (getI (.pr .int .int) m k) := by
  unfold nearR
  rw [take_getI (t := .pr .int .int) h0 h1, List.foldl_append]
  rfl
def rowV (v : Int) (m : List (Int × Int)) : List Int := m.filterMap fun e => if e.2 = v then some e.1 else if e.1 = v then some e.2 else none
theorem get_setI {L : List (List Int)} {i j : Int} {y : List Int} (h0 : 0 ≤ i) (h1 : i < (L.length : Int)) (h2 : 0 ≤ j) : getR .int (setI L i y) j = if j = i then y else getR .int L j := by
  unfold getR setI
  rw [List.getD_eq_getElem?_getD, List.getD_eq_getElem?_getD]
  by_cases h : j = i
  · subst h
    rw [List.getElem?_set_self (by omega), if_pos rfl]
    rfl
  · rw [List.getElem?_set_ne (by omega), if_neg h]
theorem put1_row {L : List (List Int)} {e : Int × Int} {v : Int} (h1 : 0 ≤ e.1 ∧ e.1 < L.length) (h2 : 0 ≤ e.2 ∧ e.2 < L.length) (h3 : e.1 ≠ e.2) (h4 : 0 ≤ v) :
    getR .int (put1 L e) v = getR .int L v ++ rowV v [e] := by
  have hl : ∀ (i : Int) (y : List Int), (setI L i y).length = L.length := fun i y => by simp [setI]
  unfold put1
  rw [get_setI h2.1 (by rw [hl]; exact h2.2) h4, get_setI h1.1 h1.2 h2.1, get_setI h1.1 h1.2 h4]
  unfold rowV
  by_cases a : v = e.2
  · have b : ¬ e.2 = e.1 := fun h => h3 h.symm
    simp [a, b]
  · by_cases b : v = e.1
    · simp [b, h3, Ne.symm h3]
    · simp [a, b, Ne.symm a, Ne.symm b]
theorem fold_row {v : Int} (h4 : 0 ≤ v) : ∀ (m : List (Int × Int)) (L : List (List Int)), (∀ e ∈ m, (0 ≤ e.1 ∧ e.1 < L.length) ∧ (0 ≤ e.2 ∧ e.2 < L.length) ∧ e.1 ≠ e.2) → getR .int (m.foldl put1 L) v = getR .int L v ++ rowV v m
  | [], L, _ => by simp [rowV]
  | e :: m, L, h => by
    obtain ⟨a, b, c⟩ := h e (by simp)
    rw [List.foldl_cons, fold_row h4 m (put1 L e) fun x hx => by rw [put1_len]; exact h x (by simp [hx]), put1_row a b c h4]
    simp only [rowV, List.append_assoc]
    congr 1
    rw [← List.filterMap_append]
    rfl
theorem nearR_row {m : List (Int × Int)} {n v : Int} (h4 : 0 ≤ v) (h : ∀ e ∈ m, 0 ≤ e.1 ∧ e.1 < e.2 ∧ e.2 < n) : getR .int (nearR m n) v = rowV v m := by
  unfold nearR
  rw [fold_row h4 m _ fun e he => by obtain ⟨a, b, c⟩ := h e he; simp; omega]
  unfold getR
  rw [List.getD_eq_getElem?_getD]
  by_cases hv : v.toNat < n.toNat
  · rw [List.getElem?_replicate_of_lt hv]; rfl
  · rw [List.getElem?_eq_none (by simp; omega)]; rfl
theorem rowV_len (v : Int) (m : List (Int × Int)) : (rowV v m).length ≤ m.length := List.length_filterMap_le _ _
theorem im_nearLists (l : List (Int × Int)) (n : Int) (h0 : 0 ≤ n) (h1 : n ≤ 8) (hl : l.length ≤ 1048576) (hg : ∀ e ∈ l, 0 ≤ e.1 ∧ e.1 < e.2 ∧ e.2 < n) :
    Spec2 Try.prog 61 [.sl (.pr .int .int) fun _ => l, .int fun _ => n] [] [.ref 0] [some (.rows 26 3 .int fun _ => nearR l n)] := by
  refine fnS [0] [4] Try.func61 rfl (by decide) rfl (by decide) (by kernel_rfl) rfl (by simp [Try.ntmps61]) ?_
  cbv
  ((try simp only [IfP_iff, and_true, true_and, decide_eq_true_eq, decide_eq_false_iff_not]); (repeat' (first | apply And.intro | intro _)))
  · ((try simp only [IfP_iff, EqU_iff, Obl_iff, and_true, true_and, inI_iff, decide_eq_true_eq, decide_eq_false_iff_not]); (repeat' (first | apply And.intro | intro _)) <;> first | omega | grind)
  refine loopK (by kernel_rfl) (fun k : Int => 0 ≤ k ∧ k ≤ l.length) (fun k => ⟨mkT 44 [(0, .sl (.pr .int .int) fun _ => l), (1, .int fun _ => n), (5, .ref 0), (12, .sl (.pr .int .int) fun _ => l), (13, .int fun _ => (l.length : Int)), (14, .int fun _ => k)], [some (.rows 26 3 .int fun _ => nearR (l.take k.toNat) n)], 0⟩) (fun k => (l.length - k).toNat) (· + 1) 0 (by simp) ?_ ?_
  · cbv
    simp only [IfP_iff, EqU_iff, Obl_iff, and_true, true_and, inI_iff, decide_eq_true_eq, decide_eq_false_iff_not]
    simp [nearR]
  · intro k hk
    have h2 : 0 ≤ k → k < l.length → 0 ≤ (getI (.pr .int .int) l k).1 ∧ (getI (.pr .int .int) l k).1 < (getI (.pr .int .int) l k).2 ∧ (getI (.pr .int .int) l k).2 < n := fun a b => hg _ (List.mem_of_getElem? (getI_get (t := .pr .int .int) a b))
    have h6 : ∀ v : Int, 0 ≤ v → (getR .int (nearR (l.take k.toNat) n) v).length ≤ 1048576 := fun v hv => by
      rw [nearR_row hv fun e he => hg e (List.mem_of_mem_take he)]
      have := rowV_len v (l.take k.toNat)
      rw [List.length_take] at this
      omega
    have h7 : ∀ (L : List (List Int)) (i : Int) (y : List Int), (setI L i y).length = L.length := fun L i y => by simp [setI]
    have h8 := @get_setI (nearR (l.take k.toNat) n)
    have h3 := nearR_len (l.take k.toNat) n
    have h4 := nearR_next (m := l) (n := n) (k := k)
    have h5 := take_all (l := l) (i := k)
    cbv
    ((try simp only [IfP_iff, and_true, true_and, decide_eq_true_eq, decide_eq_false_iff_not]); (repeat' (first | apply And.intro | intro _)))
    all_goals (try simp only [IfP_iff, EqU_iff, Obl_iff, and_true, true_and, inI_iff, decide_eq_true_eq, decide_eq_false_iff_not])
    all_goals ((repeat' (first | apply And.intro | intro _)) <;> first | omega | (simp only [put1] at h4; grind))
end Go.Proofs.Ytbkdmnohpjihgaa.M

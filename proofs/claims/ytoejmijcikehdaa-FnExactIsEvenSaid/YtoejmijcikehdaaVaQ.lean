/- Permutations: what they are; sums. -/
import Derived.Test.YtoejmijcikehdaaEoQ
import Derived.Test.YtoejmijcikehdaaQg
namespace Go.Proofs.Ytoejmijcikehdaa.M
open Go.RowKit Abs
set_option linter.unusedSimpArgs false
set_option linter.unusedVariables false
set_option maxRecDepth 100000
set_option maxHeartbeats 4000000
def permB (p : List Int) : Bool := decide ((p.length : Int) ≤ 8) && eachB p p.length
theorem perm_in {p : List Int} (h : permB p = true) : p.length ≤ 8 ∧ (∀ x : Int, 0 ≤ x → x < p.length → x ∈ p) := by
  unfold permB eachB at h
  simp only [Bool.and_eq_true, decide_eq_true_eq] at h
  refine ⟨by omega, fun x h0 h1 => hasB_iff.1 (allI_get h.2.2 h0 (by omega))⟩
theorem perm_cover : ∀ (n : Nat) (l : List Int), l.length = n → (∀ x : Int, 0 ≤ x → x < (n : Int) → x ∈ l) → l.Nodup ∧ ∀ x ∈ l, 0 ≤ x ∧ x < (n : Int)
  | 0, l, hl, _ => by
    have : l = [] := List.length_eq_zero_iff.1 hl
    rw [this]
    exact ⟨List.Pairwise.nil, fun x hx => absurd hx List.not_mem_nil⟩
  | n + 1, l, hl, h => by
    have hn : (n : Int) ∈ l := h n (by omega) (by omega)
    have hp := List.perm_cons_erase hn
    have he : (l.erase (n : Int)).length = n := by rw [List.length_erase_of_mem hn, hl]; rfl
    have hi := perm_cover n (l.erase n) he fun x h0 h1 => by
      rw [List.mem_erase_of_ne (by omega)]
      exact h x h0 (by omega)
    refine ⟨hp.nodup_iff.2 (List.nodup_cons.2 ⟨fun c => ?_, hi.1⟩), fun x hx => ?_⟩
    · have := hi.2 _ c
      omega
    · rcases List.mem_cons.1 (hp.mem_iff.1 hx) with c | c
      · omega
      · have := hi.2 _ c
        omega
theorem perm_ok {p : List Int} (h : permB p = true) : p.length ≤ 8 ∧ p.Nodup ∧ ∀ x ∈ p, 0 ≤ x ∧ x < (p.length : Int) :=
  have h1 := perm_in h
  ⟨h1.1, perm_cover _ p rfl h1.2⟩
theorem perm_at {p : List Int} (h : permB p = true) {i : Int} (h0 : 0 ≤ i) (h1 : i < (p.length : Int)) : 0 ≤ gi p i ∧ gi p i < (p.length : Int) := (perm_ok h).2.2 _ (gi_mem h0 h1)
theorem nodup_gi {p : List Int} (h : p.Nodup) {i j : Int} (h0 : 0 ≤ i) (h1 : i < (p.length : Int)) (h2 : 0 ≤ j) (h3 : j < (p.length : Int)) (e : gi p i = gi p j) : i = j := by
  have a := gi_get h0 h1
  have b := gi_get h2 h3
  rw [← e] at b
  have := (List.getElem?_inj (by omega) h).1 (a.trans b.symm)
  omega
theorem perm_inj {p : List Int} (h : permB p = true) {i j : Int} (h0 : 0 ≤ i) (h1 : i < (p.length : Int)) (h2 : 0 ≤ j) (h3 : j < (p.length : Int)) (e : gi p i = gi p j) : i = j := nodup_gi (perm_ok h).2.1 h0 h1 h2 h3 e
theorem perm_of {p : List Int} (h0 : p.length ≤ 8) (h1 : p.Nodup) (h2 : ∀ x : Int, 0 ≤ x → x < p.length → x ∈ p) : permB p = true := by
  unfold permB eachB
  simp only [Bool.and_eq_true, decide_eq_true_eq]
  exact ⟨by omega, trivial, allI_good fun k k0 k1 => hasB_iff.2 (h2 k k0 (by omega))⟩
def sm (f : Int → Int) : Nat → Int
  | 0 => 0
  | k + 1 => sm f k + f k
def ct (q : Int → Bool) (k : Nat) : Int := sm (fun j => if q j = true then 1 else 0) k
theorem sm_next {f : Int → Int} {k : Int} (h0 : 0 ≤ k) : sm f (k + 1).toNat = sm f k.toNat + f k := by
  rw [show (k + 1).toNat = k.toNat + 1 by omega]
  show sm f k.toNat + f (k.toNat : Int) = _
  rw [Int.toNat_of_nonneg h0]
theorem sm_congr {f g : Int → Int} : ∀ {k : Nat}, (∀ j : Int, 0 ≤ j → j < k → f j = g j) → sm f k = sm g k
  | 0, _ => rfl
  | k + 1, h => by
    show sm f k + f k = sm g k + g k
    rw [sm_congr (k := k) fun j a b => h j a (by omega), h k (by omega) (by omega)]
theorem sm_add {f g : Int → Int} : ∀ {k : Nat}, sm (fun j => f j + g j) k = sm f k + sm g k
  | 0 => rfl
  | k + 1 => by
    show sm (fun j => f j + g j) k + (f k + g k) = (sm f k + f k) + (sm g k + g k)
    rw [sm_add]
    omega
theorem sm_le {f : Int → Int} {m : Int} : ∀ {k : Nat}, (∀ j : Int, 0 ≤ j → j < k → 0 ≤ f j ∧ f j ≤ m) → 0 ≤ sm f k ∧ sm f k ≤ k * m
  | 0, _ => by simp [sm]
  | k + 1, h => by
    have a := sm_le (k := k) fun j a b => h j a (by omega)
    have b := h k (by omega) (by omega)
    have e : ((k + 1 : Nat) : Int) * m = k * m + m := by rw [Int.natCast_add, Int.add_mul]; simp
    show 0 ≤ sm f k + f k ∧ sm f k + f k ≤ _
    rw [e]
    omega
theorem ct_next {q : Int → Bool} {k : Int} (h0 : 0 ≤ k) : ct q (k + 1).toNat = ct q k.toNat + if q k = true then 1 else 0 := sm_next h0
theorem ct_le {q : Int → Bool} {k : Nat} : 0 ≤ ct q k ∧ ct q k ≤ k := by
  have := sm_le (f := fun j => if q j = true then 1 else 0) (m := 1) (k := k) fun j _ _ => by split <;> omega
  unfold ct
  omega
theorem ct_congr {q r : Int → Bool} {k : Nat} (h : ∀ j : Int, 0 ≤ j → j < k → q j = r j) : ct q k = ct r k := sm_congr fun j a b => by rw [h j a b]
theorem ct_zero {q : Int → Bool} {k : Nat} (h : ∀ j : Int, 0 ≤ j → j < k → q j = false) : ct q k = 0 := by
  rw [ct_congr (r := fun _ => false) h]
  have := sm_le (f := fun _ => 0) (m := 0) (k := k) fun j _ _ => by omega
  show sm (fun j => if (false : Bool) = true then 1 else 0) k = 0
  simp only [Bool.false_eq_true, if_false]
  omega
theorem tri_sum {q : Int → Int → Bool} : ∀ n : Nat, sm (fun a => ct (fun b => decide (a < b) && q a b) n) n = sm (fun b => ct (fun a => q a b) b.toNat) n
  | 0 => rfl
  | n + 1 => by
    show sm (fun a => ct (fun b => decide (a < b) && q a b) (n + 1)) n + ct (fun b => decide ((n : Int) < b) && q n b) (n + 1) = sm (fun b => ct (fun a => q a b) b.toNat) n + ct (fun a => q a n) (n : Int).toNat
    rw [← tri_sum n, ct_zero (q := fun b => decide ((n : Int) < b) && q n b) fun j a b => by simp only [Bool.and_eq_false_iff, decide_eq_false_iff_not]; left; omega]
    rw [show (n : Int).toNat = n by omega, Int.add_zero]
    show sm (fun a => ct (fun b => decide (a < b) && q a b) n + if (decide (a < (n : Int)) && q a n) = true then 1 else 0) n = _
    rw [sm_add]
    congr 1
    refine sm_congr fun j a b => ?_
    rw [show decide (j < (n : Int)) = true by simpa using b, Bool.true_and]
def invQ (p : List Int) (a b : Int) : Bool := decide (gi p b < gi p a)
def invI (p : List Int) : Int := sm (fun b => ct (fun a => invQ p a b) b.toNat) p.length
theorem inv_eq (p : List Int) : sm (fun a => ct (fun b => decide (a < b) && invQ p a b) p.length) p.length = invI p := tri_sum p.length
def invR (p : List Int) : Int := if permB p = true then invI p else 0
/-- Two places exchanged. -/
def swp (l : List Int) (a b : Int) : List Int := setI (setI l a (gi l b)) b (gi l a)
theorem swp_len (l : List Int) (a b : Int) : (swp l a b).length = l.length := by unfold swp; rw [setI_len, setI_len]
theorem swp_at {l : List Int} {a b j : Int} (a0 : 0 ≤ a) (a1 : a < l.length) (b0 : 0 ≤ b) (b1 : b < l.length) (j0 : 0 ≤ j) : gi (swp l a b) j = if j = b then gi l a else if j = a then gi l b else gi l j := by
  unfold swp
  rw [gi_set, gi_set, setI_len]
  by_cases h1 : j = b
  · rw [if_pos (by omega), if_pos h1]
  · rw [if_neg (by omega), if_neg h1]
    by_cases h2 : j = a
    · rw [if_pos (by omega), if_pos h2]
    · rw [if_neg (by omega), if_neg h2]
theorem ext_giV {a b : List Int} (h : a.length = b.length) (e : ∀ j : Int, 0 ≤ j → j < a.length → gi a j = gi b j) : a = b := by
  refine List.ext_getElem? fun k => ?_
  by_cases hk : k < a.length
  · have h1 := gi_get (l := a) (i := (k : Int)) (by omega) (by omega)
    have h2 := gi_get (l := b) (i := (k : Int)) (by omega) (by omega)
    rw [show ((k : Int)).toNat = k by omega] at h1 h2
    rw [h1, h2, e k (by omega) (by omega)]
  · rw [List.getElem?_eq_none (by omega), List.getElem?_eq_none (by omega)]
theorem swp_sym {l : List Int} {a b : Int} (a0 : 0 ≤ a) (a1 : a < l.length) (b0 : 0 ≤ b) (b1 : b < l.length) : swp l a b = swp l b a := by
  refine ext_giV (by rw [swp_len, swp_len]) fun j j0 _ => ?_
  rw [swp_at a0 a1 b0 b1 j0, swp_at b0 b1 a0 a1 j0]
  grind
def padO (r : List Int) : List Int := r ++ List.replicate (8 - r.length) 0
theorem padO_len {r : List Int} (h : r.length ≤ 8) : (padO r).length = 8 := by
  unfold padO
  rw [List.length_append, List.length_replicate]
  omega
theorem giO_pad {r : List Int} {k : Int} (h0 : 0 ≤ k) (h1 : k < (r.length : Int)) : gi (padO r) k = gi r k := by
  unfold padO gi
  rw [List.getD_eq_getElem?_getD, List.getD_eq_getElem?_getD, List.getElem?_append_left (by omega)]
theorem padO_set {r : List Int} {k x : Int} (h0 : 0 ≤ k) (h1 : k < (r.length : Int)) : setI (padO r) k x = padO (setI r k x) := by
  unfold padO setI
  rw [List.set_append_left _ _ (by omega), List.length_set]
theorem swp_pad {r : List Int} {a b : Int} (a0 : 0 ≤ a) (a1 : a < r.length) (b0 : 0 ≤ b) (b1 : b < r.length) : swp (padO r) a b = padO (swp r a b) := by
  unfold swp
  rw [giO_pad b0 b1, giO_pad a0 a1, padO_set a0 a1, padO_set b0 (by rw [setI_len]; omega)]
theorem padO_take {r : List Int} : (padO r).take r.length = r := by
  unfold padO
  rw [List.take_append_of_le_length (by omega), List.take_of_length_le (by omega)]
end Go.Proofs.Ytoejmijcikehdaa.M

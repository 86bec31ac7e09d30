/- The cycles of permutations, pure. -/
import Derived.Test.YtoejmijcikehdaaVaQ
import Derived.Test.YtoejmijcikehdaaQg
namespace Go.Proofs.Ytoejmijcikehdaa.M
open Go.RowKit Abs
set_option linter.unusedSimpArgs false
set_option linter.unusedVariables false
set_option maxRecDepth 100000
set_option maxHeartbeats 4000000
def itP (p : List Int) (x : Int) : Nat → Int
  | 0 => x
  | k + 1 => gi p (itP p x k)
theorem it_in {p : List Int} {x : Int} (h : permB p = true) (x0 : 0 ≤ x) (x1 : x < (p.length : Int)) : ∀ k : Nat, 0 ≤ itP p x k ∧ itP p x k < (p.length : Int)
  | 0 => ⟨x0, x1⟩
  | k + 1 => perm_at h (it_in h x0 x1 k).1 (it_in h x0 x1 k).2
theorem it_back {p : List Int} {x : Int} (h : permB p = true) (x0 : 0 ≤ x) (x1 : x < (p.length : Int)) {d : Nat} : ∀ i : Nat, itP p x i = itP p x (i + d) → itP p x d = x
  | 0, e => by rw [Nat.zero_add] at e; exact e.symm
  | i + 1, e => it_back h x0 x1 i (perm_inj h (it_in h x0 x1 i).1 (it_in h x0 x1 i).2 (it_in h x0 x1 (i + d)).1 (it_in h x0 x1 (i + d)).2 (by rw [show i + 1 + d = (i + d) + 1 by omega] at e; exact e))
theorem it_ex {p : List Int} {x : Int} (h : permB p = true) (x0 : 0 ≤ x) (x1 : x < (p.length : Int)) : ∃ k : Nat, 1 ≤ k ∧ k ≤ p.length ∧ itP p x k = x := by
  refine Classical.byContradiction fun c => ?_
  have hnd : ((List.range (p.length + 1)).map (itP p x)).Nodup := by
    unfold List.Nodup
    rw [List.pairwise_map]
    refine List.pairwise_lt_range.imp_of_mem fun {a b} ha hb hab e => c ⟨b - a, by omega, ?_, ?_⟩
    · rw [List.mem_range] at hb
      omega
    · refine it_back h x0 x1 a ?_
      rw [show a + (b - a) = b by omega]
      exact e
  have hs : ((List.range (p.length + 1)).map (itP p x)) ⊆ (List.range p.length).map Int.ofNat := fun y hy => by
    obtain ⟨k, _, rfl⟩ := List.mem_map.1 hy
    have := it_in h x0 x1 k
    exact List.mem_map.2 ⟨(itP p x k).toNat, List.mem_range.2 (by omega), by show (((itP p x k).toNat : Nat) : Int) = _; omega⟩
  have := List.Nodup.length_le_of_subset hnd hs
  simp only [List.length_map, List.length_range] at this
  omega
def perN (p : List Int) (x : Int) : Nat := ((List.range (p.length + 1)).find? fun k => decide (1 ≤ k) && decide (itP p x k = x)).getD 0
theorem per_ok {p : List Int} {x : Int} (h : permB p = true) (x0 : 0 ≤ x) (x1 : x < (p.length : Int)) : 1 ≤ perN p x ∧ perN p x ≤ p.length ∧ itP p x (perN p x) = x ∧ ∀ k : Nat, 1 ≤ k → k < perN p x → itP p x k ≠ x := by
  obtain ⟨k, k0, k1, k2⟩ := it_ex h x0 x1
  unfold perN
  cases hf : (List.range (p.length + 1)).find? fun k => decide (1 ≤ k) && decide (itP p x k = x) with
  | none =>
    have := List.find?_eq_none.1 hf k (List.mem_range.2 (by omega))
    simp [k0, k2] at this
  | some m =>
    have hm := List.find?_range_eq_some.1 hf
    simp only [Bool.and_eq_true, decide_eq_true_eq, List.mem_range, Bool.not_eq_true', Bool.and_eq_false_iff, decide_eq_false_iff_not] at hm
    refine ⟨hm.1.1, by have := hm.2.1; show m ≤ _; omega, hm.1.2, fun j j0 j1 e => ?_⟩
    rcases hm.2.2 j j1 with c | c
    · omega
    · exact c e
def cycK (p : List Int) (x : Int) (k : Nat) : List Int := (List.range k).map (itP p x)
theorem cycK_next {p : List Int} {x : Int} {k : Nat} : cycK p x (k + 1) = cycK p x k ++ [itP p x k] := by
  unfold cycK
  rw [List.range_succ, List.map_append]
  rfl
theorem cycK_len {p : List Int} {x : Int} {k : Nat} : (cycK p x k).length = k := by unfold cycK; rw [List.length_map, List.length_range]
theorem cycK_mem {p : List Int} {x y : Int} {k : Nat} : y ∈ cycK p x k ↔ ∃ j : Nat, j < k ∧ itP p x j = y := by
  unfold cycK
  simp only [List.mem_map, List.mem_range]
theorem cyc_new {p : List Int} {x : Int} (h : permB p = true) (x0 : 0 ≤ x) (x1 : x < (p.length : Int)) {k : Nat} (hk : k < perN p x) : itP p x k ∉ cycK p x k := fun c => by
  obtain ⟨j, j1, j2⟩ := cycK_mem.1 c
  refine (per_ok h x0 x1).2.2.2 (k - j) (by omega) (by omega) (it_back h x0 x1 j ?_)
  rw [show j + (k - j) = k by omega]
  exact j2
theorem cyc_end {p : List Int} {x : Int} (h : permB p = true) (x0 : 0 ≤ x) (x1 : x < (p.length : Int)) : itP p x (perN p x) ∈ cycK p x (perN p x) :=
  cycK_mem.2 ⟨0, (per_ok h x0 x1).1, (per_ok h x0 x1).2.2.1.symm⟩
def cloS (p s : List Int) : Prop := ∀ y : Int, 0 ≤ y → y < (p.length : Int) → (gi p y ∈ s ↔ y ∈ s)
theorem cyc_clo {p : List Int} {x : Int} (h : permB p = true) (x0 : 0 ≤ x) (x1 : x < (p.length : Int)) : cloS p (cycK p x (perN p x)) := fun y y0 y1 => by
  obtain ⟨q0, q1, q2, q3⟩ := per_ok h x0 x1
  constructor
  · intro hy
    obtain ⟨j, j1, j2⟩ := cycK_mem.1 hy
    cases j with
    | zero =>
      refine cycK_mem.2 ⟨perN p x - 1, by omega, ?_⟩
      have e : gi p (itP p x (perN p x - 1)) = gi p y := by
        rw [← j2]
        show itP p x (perN p x - 1 + 1) = x
        rw [show perN p x - 1 + 1 = perN p x by omega]
        exact q2
      exact perm_inj h (it_in h x0 x1 _).1 (it_in h x0 x1 _).2 y0 y1 e
    | succ j => exact cycK_mem.2 ⟨j, by omega, perm_inj h (it_in h x0 x1 _).1 (it_in h x0 x1 _).2 y0 y1 j2⟩
  · intro hy
    obtain ⟨j, j1, j2⟩ := cycK_mem.1 hy
    by_cases hj : j + 1 < perN p x
    · exact cycK_mem.2 ⟨j + 1, hj, by rw [← j2]; rfl⟩
    · refine cycK_mem.2 ⟨0, by omega, ?_⟩
      show x = gi p y
      rw [← j2]
      show x = itP p x (j + 1)
      rw [show j + 1 = perN p x by omega, q2]
theorem it_out {p s : List Int} {x : Int} (h : permB p = true) (x0 : 0 ≤ x) (x1 : x < (p.length : Int)) (hs : cloS p s) (hx : x ∉ s) : ∀ k : Nat, itP p x k ∉ s
  | 0 => hx
  | k + 1 => fun c => it_out h x0 x1 hs hx k ((hs _ (it_in h x0 x1 k).1 (it_in h x0 x1 k).2).1 c)
def cycA (p : List Int) : Nat → List (List Int)
  | 0 => []
  | k + 1 => cycA p k ++ if hasB (cycA p k).flatten k = true then [] else [cycK p k (perN p k)]
def seenA (p : List Int) (k : Nat) : List Int := (cycA p k).flatten
theorem seen_next {p : List Int} {k : Nat} : seenA p (k + 1) = seenA p k ++ if hasB (seenA p k) k = true then [] else cycK p k (perN p k) := by
  unfold seenA
  show (cycA p k ++ if hasB (cycA p k).flatten k = true then [] else [cycK p k (perN p k)]).flatten = _
  rw [List.flatten_append]
  split <;> simp
theorem seen_clo {p : List Int} (h : permB p = true) : ∀ {k : Nat}, k ≤ p.length → cloS p (seenA p k)
  | 0, _ => fun y _ _ => by simp [seenA, cycA]
  | k + 1, hk => fun y y0 y1 => by
    have a := seen_clo h (k := k) (by omega) y y0 y1
    have b := cyc_clo h (x := (k : Int)) (by omega) (by omega) y y0 y1
    rw [seen_next]
    split
    · rw [List.append_nil]; exact a
    · rw [List.mem_append, List.mem_append, a, b]
theorem seen_len {p : List Int} (h : permB p = true) : ∀ {k : Nat}, k ≤ p.length → (seenA p k).length ≤ 8 * k
  | 0, _ => by simp [seenA, cycA]
  | k + 1, hk => by
    have a := seen_len h (k := k) (by omega)
    have b := per_ok h (x := (k : Int)) (by omega) (by omega)
    have c := (perm_ok h).1
    rw [seen_next, List.length_append]
    split
    · rw [List.length_nil]; omega
    · rw [cycK_len]; omega
theorem cycA_len {p : List Int} : ∀ {k : Nat}, (cycA p k).length ≤ k
  | 0 => by simp [cycA]
  | k + 1 => by
    have a := cycA_len (p := p) (k := k)
    show (cycA p k ++ if hasB (cycA p k).flatten k = true then [] else [cycK p k (perN p k)]).length ≤ _
    rw [List.length_append]
    split <;> simp <;> omega
theorem cycA_row {p : List Int} (h : permB p = true) : ∀ {k : Nat}, k ≤ p.length → ∀ s ∈ cycA p k, s.length ≤ 8
  | 0, _ => fun s hs => by simp [cycA] at hs
  | k + 1, hk => fun s hs => by
    have a := cycA_row h (k := k) (by omega)
    have b := per_ok h (x := (k : Int)) (by omega) (by omega)
    have c := (perm_ok h).1
    rcases List.mem_append.1 (show s ∈ cycA p k ++ if hasB (cycA p k).flatten k = true then [] else [cycK p k (perN p k)] from hs) with d | d
    · exact a s d
    · split at d
      · simp at d
      · rw [List.mem_singleton] at d
        rw [d, cycK_len]
        omega
def cycR (p : List Int) : List (List Int) := if permB p = true then cycA p p.length else []
end Go.Proofs.Ytoejmijcikehdaa.M

/- Matchings, pure: the specification's test and the program's are the same. -/
import Derived.Test.YtjkmgdhndbdhoaaJcQ
import Derived.Test.YtjkmgdhndbdhoaaQg
namespace Go.Proofs.Ytjkmgdhndbdhoaa.M
open Go.RowKit Abs
set_option linter.unusedSimpArgs false
set_option linter.unusedVariables false
set_option maxRecDepth 100000
set_option maxHeartbeats 4000000
/-- The ends of edges, one edge's behind the other's. -/
def endsL (l : List (Int × Int)) : List Int → List Int
  | [] => []
  | x :: r => (getI (.pr .int .int) l x).1 :: (getI (.pr .int .int) l x).2 :: endsL l r
theorem ends_app (l : List (Int × Int)) : ∀ a b : List Int, endsL l (a ++ b) = endsL l a ++ endsL l b
  | [], b => rfl
  | x :: a, b => by
    show _ :: _ :: endsL l (a ++ b) = _
    rw [ends_app l a b]
    rfl
theorem ends_next {l : List (Int × Int)} {s : List Int} {k : Int} (h0 : 0 ≤ k) (h1 : k < (s.length : Int)) : endsL l (s.take (k + 1).toNat) = endsL l (s.take k.toNat) ++ [(getI (.pr .int .int) l (gi s k)).1] ++ [(getI (.pr .int .int) l (gi s k)).2] := by
  rw [take_gi h0 h1, ends_app, List.append_assoc]
  rfl
theorem ends_len (l : List (Int × Int)) : ∀ s : List Int, (endsL l s).length = 2 * s.length
  | [] => rfl
  | x :: s => by
    have := ends_len l s
    unfold endsL
    simp only [List.length_cons]
    omega
theorem mem_ends {l : List (Int × Int)} {v : Int} : ∀ {s : List Int}, v ∈ endsL l s ↔ ∃ y ∈ s, v = (getI (.pr .int .int) l y).1 ∨ v = (getI (.pr .int .int) l y).2
  | [] => by simp [endsL]
  | x :: s => by
    unfold endsL
    rw [List.mem_cons, List.mem_cons, mem_ends (s := s)]
    simp only [List.mem_cons, exists_eq_or_imp]
    constructor
    · rintro (h | h | h)
      · exact .inl (.inl h)
      · exact .inl (.inr h)
      · exact .inr h
    · rintro ((h | h) | h)
      · exact .inl h
      · exact .inr (.inl h)
      · exact .inr (.inr h)
def inN (m x : Int) : Bool := decide (0 ≤ x) && decide (x ≤ m - 1)
def metB (l : List (Int × Int)) (s : List Int) (k : Int) : Bool := hasB (endsL l (s.take k.toNat)) (getI (.pr .int .int) l (gi s k)).1 || hasB (endsL l (s.take k.toNat)) (getI (.pr .int .int) l (gi s k)).2
/-- What the specification asks of the k-th edge of a matching. -/
def spM (l : List (Int × Int)) (s : List Int) (k : Int) : Bool := inN l.length (gi s k) && (decide (k ≤ 0) || decide (gi s (k - 1) < gi s k)) && !metB l s k
def matB (l : List (Int × Int)) (s : List Int) : Bool := fitB (allN l) (edgeX l) s
theorem met_iff (l : List (Int × Int)) (s : List Int) (k : Int) : metB l s k = (s.take k.toNat).any fun y => edgeX l y (gi s k) := by
  rw [Bool.eq_iff_iff]
  unfold metB
  simp only [Bool.or_eq_true, hasB_iff, mem_ends, List.any_eq_true]
  unfold edgeX
  simp only [Bool.or_eq_true, hasB_iff, List.mem_cons, List.not_mem_nil, or_false]
  constructor
  · rintro (⟨y, hy, h | h⟩ | ⟨y, hy, h | h⟩)
    · exact ⟨y, hy, .inl (.inl h.symm)⟩
    · exact ⟨y, hy, .inr (.inl h.symm)⟩
    · exact ⟨y, hy, .inl (.inr h.symm)⟩
    · exact ⟨y, hy, .inr (.inr h.symm)⟩
  · rintro ⟨y, hy, (h | h) | (h | h)⟩
    · exact .inl ⟨y, hy, .inl h.symm⟩
    · exact .inr ⟨y, hy, .inl h.symm⟩
    · exact .inl ⟨y, hy, .inr h.symm⟩
    · exact .inr ⟨y, hy, .inr h.symm⟩
theorem mat_spec (l : List (Int × Int)) (s : List Int) : allI s.length (spM l s) = matB l s := by
  unfold matB fitB
  rw [Bool.eq_iff_iff]
  simp only [Bool.and_eq_true]
  constructor
  · intro h1
    have hinc : incB s = true := by
      refine allI_good fun k k0 k1 => ?_
      have := allI_get h1 k0 k1
      unfold spM at this
      simp only [Bool.and_eq_true] at this
      exact this.1.2
    refine ⟨allI_good fun k k0 k1 => ?_, hinc⟩
    have h3 := allI_get h1 k0 k1
    unfold spM at h3
    simp only [Bool.and_eq_true] at h3
    have hin := h3.1.1
    unfold inN at hin
    simp only [Bool.and_eq_true, decide_eq_true_eq] at hin
    have hm := h3.2
    rw [met_iff, Bool.not_eq_true', List.any_eq_false] at hm
    unfold fitOk
    rw [hasB_iff, fit_mem]
    refine ⟨mem_allN.2 ⟨hin.1, by omega⟩, fun y hy => ⟨?_, by simpa using hm y hy⟩⟩
    obtain ⟨i, hi, e⟩ := List.getElem_of_mem hy
    rw [List.getElem_take] at e
    rw [List.length_take] at hi
    have hi2 : (i : Int) < k := by omega
    have h4 := inc_lt hinc (a := i) (by omega) (d := (k - i - 1).toNat) (by omega)
    rw [show (i : Int) + ((k - i - 1).toNat : Int) + 1 = k by omega] at h4
    have e2 : gi s i = y := by
      rw [← e]
      unfold gi
      rw [show ((i : Int)).toNat = i by omega, List.getD_eq_getElem?_getD, List.getElem?_eq_getElem (by omega)]
      rfl
    rw [e2] at h4
    exact Int.ne_of_lt h4
  · rintro ⟨h1, hinc⟩
    refine allI_good fun k k0 k1 => ?_
    have h3 := allI_get h1 k0 k1
    unfold fitOk at h3
    rw [hasB_iff, fit_mem] at h3
    have h4 := allI_get hinc k0 k1
    have h5 := mem_allN.1 h3.1
    unfold spM
    simp only [Bool.and_eq_true]
    refine ⟨⟨by unfold inN; simp only [Bool.and_eq_true, decide_eq_true_eq]; omega, h4⟩, ?_⟩
    rw [met_iff, Bool.not_eq_true', List.any_eq_false]
    intro y hy
    have := (h3.2 y hy).2
    simp [this]
end Go.Proofs.Ytjkmgdhndbdhoaa.M

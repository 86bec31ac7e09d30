/- SortSwaps: what it says, pure; the place of a number. -/
import Derived.Test.YtoejmijcikehdaaViQ
import Derived.Test.YtoejmijcikehdaaQg
namespace Go.Proofs.Ytoejmijcikehdaa.M
open Go.RowKit Abs
set_option linter.unusedSimpArgs false
set_option linter.unusedVariables false
set_option maxRecDepth 100000
set_option maxHeartbeats 4000000
/-- The place of a number. -/
def atI (p : List Int) (x : Int) : Int := findI p fun y => decide (x = y)
theorem atI_hit {p : List Int} {x k : Int} (h0 : 0 ≤ k) (h1 : k < (p.length : Int)) (hx : gi p k = x) (hn : ∀ j : Int, 0 ≤ j → j < k → gi p j ≠ x) : atI p x = k :=
  findI_hit h0 h1 (by show decide (x = gi p k) = true; rw [hx]; simp) fun j j0 j1 => by
    show decide (x = gi p j) = false
    rw [decide_eq_false_iff_not]
    exact fun e => hn j j0 j1 e.symm
theorem perm_pos {p : List Int} (h : permB p = true) {x : Int} (h0 : 0 ≤ x) (h1 : x < (p.length : Int)) : 0 ≤ atI p x ∧ atI p x < p.length ∧ gi p (atI p x) = x := by
  obtain ⟨j, j0, j1, j2⟩ := mem_at ((perm_in h).2 x h0 h1)
  have j2 : gi p j = x := j2
  have : atI p x = j := atI_hit j0 j1 j2 fun i i0 i1 e => by
    have := perm_inj h i0 (by omega) j0 j1 (e.trans j2.symm)
    omega
  rw [this]
  exact ⟨j0, j1, j2⟩
theorem perm_swp {p : List Int} (h : permB p = true) {a b : Int} (a0 : 0 ≤ a) (a1 : a < p.length) (b0 : 0 ≤ b) (b1 : b < p.length) : permB (swp p a b) = true := by
  unfold permB eachB
  simp only [Bool.and_eq_true, decide_eq_true_eq]
  refine ⟨by rw [swp_len]; have := (perm_ok h).1; omega, trivial, allI_good fun x x0 x1 => ?_⟩
  rw [Int.toNat_natCast, swp_len] at x1
  obtain ⟨p0, p1, p2⟩ := perm_pos h x0 x1
  rw [hasB_iff]
  have key : ∀ j : Int, 0 ≤ j → j < p.length → gi (swp p a b) j = x → x ∈ swp p a b := fun j j0 j1 e => e ▸ gi_mem j0 (by rw [swp_len]; exact j1)
  by_cases ha : atI p x = a
  · exact key b b0 b1 (by rw [swp_at a0 a1 b0 b1 b0, if_pos rfl, ← ha, p2])
  · by_cases hb : atI p x = b
    · refine key a a0 a1 ?_
      rw [swp_at a0 a1 b0 b1 a0]
      by_cases hab : a = b
      · rw [if_pos hab, hab, ← hb, p2]
      · rw [if_neg hab, if_pos rfl, ← hb, p2]
    · exact key (atI p x) p0 p1 (by rw [swp_at a0 a1 b0 b1 p0, if_neg hb, if_neg ha, p2])
def srtN (p : List Int) : Nat → List Int × List (Int × Int)
  | 0 => (p, [])
  | k + 1 => if (k : Int) < atI (srtN p k).1 k then (swp (srtN p k).1 k (atI (srtN p k).1 k), (srtN p k).2 ++ [((k : Int), atI (srtN p k).1 k)]) else srtN p k
def srtP (p : List Int) (x : Int) : List Int := (srtN p x.toNat).1
def srtL (p : List Int) (x : Int) : List (Int × Int) := (srtN p x.toNat).2
theorem srtN_ok {p : List Int} (h : permB p = true) : ∀ {k : Nat}, k ≤ p.length → permB (srtN p k).1 = true ∧ (srtN p k).1.length = p.length ∧ (srtN p k).2.length ≤ k ∧ ∀ j : Int, 0 ≤ j → j < k → gi (srtN p k).1 j = j
  | 0, _ => ⟨h, rfl, Nat.le_refl _, fun j a b => by omega⟩
  | k + 1, hk => by
    obtain ⟨i1, i2, i3, i4⟩ := srtN_ok h (k := k) (by omega)
    obtain ⟨p0, p1, p2⟩ := perm_pos i1 (x := (k : Int)) (by omega) (by omega)
    have p3 : (k : Int) ≤ atI (srtN p k).1 k := by
      refine Classical.byContradiction fun c => ?_
      have := i4 _ p0 (by omega)
      omega
    unfold srtN
    split
    · rename_i hlt
      refine ⟨perm_swp i1 (by omega) (by omega) p0 p1, by rw [swp_len]; exact i2, by rw [List.length_append]; simp; exact i3, fun j j0 j1 => ?_⟩
      show gi (swp (srtN p k).1 k (atI (srtN p k).1 k)) j = j
      rw [swp_at (by omega) (by omega) p0 p1 j0]
      by_cases hj : j = atI (srtN p k).1 k
      · omega
      · rw [if_neg hj]
        by_cases hjk : j = k
        · rw [if_pos hjk, p2, hjk]
        · rw [if_neg hjk]
          exact i4 j j0 (by omega)
    · rename_i hlt
      refine ⟨i1, i2, by omega, fun j j0 j1 => ?_⟩
      by_cases hjk : j = k
      · rw [hjk]
        have : atI (srtN p k).1 k = k := by omega
        rw [this] at p2
        exact p2
      · exact i4 j j0 (by omega)
theorem srt_ok {p : List Int} (h : permB p = true) {x : Int} (h0 : 0 ≤ x) (h1 : x < p.length) : permB (srtP p x) = true ∧ (srtP p x).length = p.length ∧ ((srtL p x).length : Int) ≤ x ∧ x ≤ atI (srtP p x) x ∧ atI (srtP p x) x < p.length := by
  obtain ⟨i1, i2, i3, i4⟩ := srtN_ok h (k := x.toNat) (by omega)
  obtain ⟨p0, p1, p2⟩ := perm_pos i1 (x := x) (by omega) (by omega)
  refine ⟨i1, i2, by show (((srtN p x.toNat).2.length : Nat) : Int) ≤ x; omega, ?_, by show atI (srtN p x.toNat).1 x < _; omega⟩
  show x ≤ atI (srtN p x.toNat).1 x
  refine Classical.byContradiction fun c => ?_
  have := i4 _ p0 (by omega)
  omega
theorem srt_next {p : List Int} {x : Int} (h0 : 0 ≤ x) : (x < atI (srtP p x) x → swp (srtP p x) x (atI (srtP p x) x) = srtP p (x + 1) ∧ srtL p x ++ [(x, atI (srtP p x) x)] = srtL p (x + 1)) ∧ (¬ x < atI (srtP p x) x → srtP p x = srtP p (x + 1) ∧ srtL p x = srtL p (x + 1)) := by
  have e : srtN p (x + 1).toNat = if x < atI (srtN p x.toNat).1 x then (swp (srtN p x.toNat).1 x (atI (srtN p x.toNat).1 x), (srtN p x.toNat).2 ++ [(x, atI (srtN p x.toNat).1 x)]) else srtN p x.toNat := by
    rw [show (x + 1).toNat = x.toNat + 1 by omega]
    have := srtN.eq_2 p x.toNat
    rw [Int.toNat_of_nonneg h0] at this
    exact this
  unfold srtP srtL
  rw [e]
  refine ⟨fun h => ?_, fun h => ?_⟩
  · rw [if_pos h]
    exact ⟨rfl, rfl⟩
  · rw [if_neg h]
    exact ⟨rfl, rfl⟩
def sortR (p : List Int) : List (Int × Int) := if permB p = true then srtL p p.length else []
theorem srtN_len {p : List Int} : ∀ {k : Nat}, (srtN p k).2.length ≤ k
  | 0 => Nat.le_refl _
  | k + 1 => by
    have := srtN_len (p := p) (k := k)
    unfold srtN
    split
    · rw [List.length_append]; simp; exact this
    · omega
theorem sortR_len (p : List Int) (hp : p.length ≤ 1048576) : (sortR p).length ≤ 1048576 := by
  unfold sortR
  split
  · have := srtN_len (p := p) (k := ((p.length : Int)).toNat)
    unfold srtL
    omega
  · simp
theorem sp_at (p : List Int) (x : Int) (hp : p.length ≤ 1048576) (h0 : 0 ≤ atI p x) (h1 : atI p x < p.length) (h2 : gi p (atI p x) = x) : Spec2 Try.prog 55 [.sl .int fun _ => p, .int fun _ => x] [] [.int fun _ => atI p x] [] := by
  have i1 : ∀ k : Int, (0 ≤ k ∧ k ≤ atI p x ∧ ∀ j : Int, 0 ≤ j → j < k → gi p j ≠ x) → (!decide (gi p k = x)) = false → k = atI p x := fun k hk e => (atI_hit hk.1 (by omega) (by simpa using e) hk.2.2).symm
  have i2 : ∀ k : Int, (0 ≤ k ∧ k ≤ atI p x ∧ ∀ j : Int, 0 ≤ j → j < k → gi p j ≠ x) → (!decide (gi p k = x)) = true → k < atI p x := fun k hk e => by
    have e : gi p k ≠ x := by simpa using e
    refine Classical.byContradiction fun c => e ?_
    rw [show k = atI p x by omega]
    exact h2
  have i3 : ∀ k : Int, (0 ≤ k ∧ k ≤ atI p x ∧ ∀ j : Int, 0 ≤ j → j < k → gi p j ≠ x) → (!decide (gi p k = x)) = true → ∀ j : Int, 0 ≤ j → j < k + 1 → gi p j ≠ x := fun k hk e j j0 j1 => by
    have e : gi p k ≠ x := by simpa using e
    by_cases hj : j = k
    · rw [hj]; exact e
    · exact hk.2.2 j j0 (by omega)
  have i4 : ∀ k : Int, k ≤ atI p x → k < p.length := fun k h => by omega
  have i5 : ∀ k : Int, 0 ≤ k → k ≤ atI p x → inI (k + 1) := fun k h h' => by unfold inI; omega
  clear h1 h2 hp
  generalize atI p x = m at *
  refine fnS [] [4] Try.func55 rfl (by decide) rfl (by decide) (by kernel_rfl) rfl (by simp [Try.ntmps55]) ?_
  cbv
  refine loopP (by kernel_rfl) (fun k : Int => 0 ≤ k ∧ k ≤ m ∧ ∀ j : Int, 0 ≤ j → j < k → gi p j ≠ x) (fun k => [(5, .int fun _ => k)]) (fun _ => []) (fun k => (m - k).toNat) (· + 1) 0 (by grind) ?_ ?_
  · cbv
    (simp only [IfP_iff, EqU_iff, Obl_iff, and_true, true_and, inI_iff, decide_eq_true_eq, decide_eq_false_iff_not]; (try simp only [natc, getI_gi, at2_0, at2_1]); (try dsimp only [Ty.den]); try simp only [natc] at *)
  · intro k hk
    have i1 := i1 k hk
    have i2 := i2 k hk
    have i3 := i3 k hk
    have i4 := i4 k hk.2.1
    have i5 := inI_iff.1 (i5 k hk.1 hk.2.1)
    cbv
    ((try simp only [IfP_iff, and_true, true_and, decide_eq_true_eq, decide_eq_false_iff_not]); (try simp only [natc, getI_gi, at2_0, at2_1]); (try dsimp only [Ty.den]); (try simp only [natc] at *); (repeat' (first | apply And.intro | intro _)))
    all_goals (try (simp only [IfP_iff, EqU_iff, Obl_iff, and_true, true_and, inI_iff, decide_eq_true_eq, decide_eq_false_iff_not]; (try simp only [natc, getI_gi, at2_0, at2_1]); (try dsimp only [Ty.den]); try simp only [natc] at *))
    all_goals ((repeat' (first | apply And.intro | intro _)) <;> first | omega | assumption | exact i1 (by assumption) | (exact i3 (by assumption) _ (by assumption) (by assumption) (by assumption)) | (have := i2 (by assumption); omega) | (trace_state; fail))
end Go.Proofs.Ytoejmijcikehdaa.M

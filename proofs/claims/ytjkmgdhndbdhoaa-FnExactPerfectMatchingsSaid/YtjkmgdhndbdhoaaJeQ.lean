/- Matchings: the specification. -/
import Derived.Test.YtjkmgdhndbdhoaaJdQ
import Derived.Test.YtjkmgdhndbdhoaaLpQ
import Derived.Test.YtjkmgdhndbdhoaaDfQ
import Derived.Test.YtjkmgdhndbdhoaaQg
namespace Go.Proofs.Ytjkmgdhndbdhoaa.M
open Go.RowKit Abs
set_option linter.unusedSimpArgs false
set_option linter.unusedVariables false
set_option maxRecDepth 100000
set_option maxHeartbeats 4000000
theorem pw_len : ∀ (s : List Int) (a b : Int), a ≤ b → s.Pairwise (· < ·) → (∀ x ∈ s, a ≤ x ∧ x < b) → (s.length : Int) ≤ b - a
  | [], a, b, h, _, _ => by simp only [List.length_nil]; omega
  | x :: s, a, b, h, hp, hx => by
    have h1 := hx x (by simp)
    have h2 := List.pairwise_cons.1 hp
    have := pw_len s (x + 1) b (by omega) h2.2 fun y hy => by
      have k1 := h2.1 y hy
      have k2 := hx y (by simp [hy])
      omega
    simp only [List.length_cons]
    omega
theorem graph_len {n : Int} {l : List (Int × Int)} (h : graphOk n l = true) : l.length ≤ 64 := by
  obtain ⟨⟨g0, g1⟩, g2, g3⟩ := graph_edges h
  have h1 := pw_len (l.map fun e => 8 * e.1 + e.2) 0 64 (by omega) ?_ ?_
  · rw [List.length_map] at h1; omega
  · rw [List.pairwise_map]
    refine List.Pairwise.imp_of_mem (fun {p q} hp hq hlt => ?_) g3
    have k1 := g2 p hp
    have k2 := g2 q hq
    unfold edgeLt at hlt
    simp only [Bool.or_eq_true, Bool.and_eq_true, decide_eq_true_eq, beq_iff_eq] at hlt
    omega
  · intro x hx
    obtain ⟨e, he, rfl⟩ := List.mem_map.1 hx
    have := g2 e he
    omega
theorem spM_ge {l : List (Int × Int)} {s : List Int} {k : Int} (h : ∀ j : Int, 0 ≤ j → j < k → spM l s j = true) : ∀ j : Nat, (j : Int) < k → (j : Int) ≤ gi s j
  | 0, hj => by
    have h1 := h 0 (by omega) (by omega)
    unfold spM inN at h1
    simp only [Bool.and_eq_true, decide_eq_true_eq] at h1
    exact h1.1.1.1
  | j + 1, hj => by
    have h0 := spM_ge h j (by omega)
    have h1 := h (j + 1 : Nat) (by omega) hj
    unfold spM at h1
    simp only [Bool.and_eq_true, Bool.or_eq_true, decide_eq_true_eq] at h1
    have h2 := h1.1.2
    rw [show ((j + 1 : Nat) : Int) - 1 = (j : Int) by omega] at h2
    omega
theorem spM_le {l : List (Int × Int)} {s : List Int} {k : Int} (k0 : 0 ≤ k) (h : ∀ j : Int, 0 ≤ j → j < k → spM l s j = true) : k ≤ l.length := by
  by_cases hk : k = 0
  · omega
  · have h1 := spM_ge h (k - 1).toNat (by omega)
    have h2 := h (k - 1) (by omega) (by omega)
    unfold spM inN at h2
    simp only [Bool.and_eq_true, decide_eq_true_eq] at h2
    have h3 := h2.1.1.2
    rw [show (((k - 1).toNat : Nat) : Int) = k - 1 by omega] at h1
    omega
theorem sp_matches (n : Int) (l : List (Int × Int)) (s : List Int) (hl : l.length ≤ 1048576) (hs : s.length ≤ 1048576) (hg : graphOk n l = true) : Spec2 Try.prog 46 [.agg (.pr .int (.sl (.pr .int .int))) fun _ => (n, l), .sl .int fun _ => s] [] [.bool fun _ => matB l s] [] := by
  have hgl := graph_len hg
  have hts := mat_spec l s
  generalize matB l s = mb at hts ⊢
  refine fnE [7, 10] [] [4] Try.func46 rfl (by decide) rfl (by decide) (by kernel_rfl) rfl (by simp [Try.ntmps46]) ?_
  cbv
  refine loopXE [7, 10] (by kernel_rfl) (fun k : Int => 0 ≤ k ∧ k ≤ s.length ∧ ∀ j : Int, 0 ≤ j → j < k → spM l s j = true) (fun k => [(6, .int fun _ => k), (5, .ref 1), (7, .junk), (8, .junk)]) (fun k => [(1, some (.row 3 .int fun _ => endsL l (s.take k.toNat)))]) (fun k => (s.length - k).toNat) (· + 1) 0 (by refine ⟨by omega, by omega, fun j a b => absurd b (by omega)⟩) ?_ ?_
  · cbv
    (simp only [IfP_iff, EqU_iff, Obl_iff, and_true, true_and, inI_iff, decide_eq_true_eq, decide_eq_false_iff_not]; (try simp only [natc, getI_gi, at2_0, at2_1]); (try dsimp only [Ty.den]); try simp only [natc] at *)
    rfl
  · intro k hk
    have g0 := hk.1
    have g1 := hk.2.1
    have g2 := spM_le hk.1 hk.2.2
    have g3 : (endsL l (s.take k.toNat)).length ≤ 1000 := by rw [ends_len, List.length_take]; omega
    have g4 : (endsL l (s.take k.toNat)).length ≤ 1048576 := by omega
    have bad : k < (s.length : Int) → spM l s k = false → false = mb := fun h hb => by
      rw [← hts, allI_bad hk.1 h hb]
    have fin : ¬ k < (s.length : Int) → true = mb := fun h => by
      rw [← hts, allI_good fun j j0 j1 => hk.2.2 j j0 (by omega)]
    have e1 : spM l s k = (inN l.length (gi s k) && (decide (k ≤ 0) || decide (gi s (k - 1) < gi s k)) && !(hasB (endsL l (s.take k.toNat)) (getI (.pr .int .int) l (gi s k)).1 || hasB (endsL l (s.take k.toNat)) (getI (.pr .int .int) l (gi s k)).2)) := rfl
    have b1 : k < (s.length : Int) → (!(decide (0 ≤ gi s k) && decide (gi s k ≤ (l.length : Int) - 1))) = true → false = mb := fun h hb => bad h (by
      rw [e1, show inN l.length (gi s k) = false by unfold inN; simpa only [Bool.not_eq_true'] using hb]; rfl)
    have a1 : (!(decide (0 ≤ gi s k) && decide (gi s k ≤ (l.length : Int) - 1))) = false → 0 ≤ gi s k ∧ gi s k < (l.length : Int) := fun h => by
      simp only [Bool.not_eq_false', Bool.and_eq_true, decide_eq_true_eq] at h
      omega
    have b2 : k < (s.length : Int) → 0 < k → gi s k ≤ gi s (k - 1) → false = mb := fun h ha hb => bad h (by
      rw [e1, decide_eq_false (show ¬ k ≤ 0 by omega), decide_eq_false (show ¬ gi s (k - 1) < gi s k from Int.not_lt.2 hb)]; simp)
    have b3 : k < (s.length : Int) → hasB (endsL l (s.take k.toNat)) (getI (.pr .int .int) l (gi s k)).1 = true → false = mb := fun h hb => bad h (by
      rw [e1, hb]; simp)
    have b4 : k < (s.length : Int) → hasB (endsL l (s.take k.toNat)) (getI (.pr .int .int) l (gi s k)).2 = true → false = mb := fun h hb => bad h (by
      rw [e1, hb]; simp)
    have ok : (!(decide (0 ≤ gi s k) && decide (gi s k ≤ (l.length : Int) - 1))) = false → (¬ 0 < k ∨ ¬ gi s k ≤ gi s (k - 1)) → hasB (endsL l (s.take k.toNat)) (getI (.pr .int .int) l (gi s k)).1 = false → hasB (endsL l (s.take k.toNat)) (getI (.pr .int .int) l (gi s k)).2 = false → ∀ j : Int, 0 ≤ j → j < k + 1 → spM l s j = true := fun h1 h2 h3 h4 => upTo hk.2.2 (by
      have h5 := a1 h1
      rw [e1, h3, h4]
      unfold inN
      rw [decide_eq_true h5.1, decide_eq_true (show gi s k ≤ (l.length : Int) - 1 by omega)]
      rcases h2 with h2 | h2
      · rw [decide_eq_true (show k ≤ 0 by omega)]; rfl
      · rw [decide_eq_true (show gi s (k - 1) < gi s k from Int.not_le.1 h2), Bool.or_true]; rfl)
    have nx : k < (s.length : Int) → endsL l (s.take k.toNat) ++ [(getI (.pr .int .int) l (gi s k)).1] ++ [(getI (.pr .int .int) l (gi s k)).2] = endsL l (s.take (k + 1).toNat) := fun h => (ends_next hk.1 h).symm
    clear hk bad e1 hts
    cbv
    ((try simp only [IfP_iff, and_true, true_and, decide_eq_true_eq, decide_eq_false_iff_not]); (try simp only [natc, getI_gi, at2_0, at2_1]); (try dsimp only [Ty.den]); (try simp only [natc] at *); (repeat' (first | apply And.intro | intro _)))
    all_goals (repeat' (first | ((first | refine call_q (sp_in _ _ _) (by cbv) ?_ | refine call_pure (sp_in _ _ _) (by cbv) ?_); cbv; ((try simp only [IfP_iff, and_true, true_and, decide_eq_true_eq, decide_eq_false_iff_not]); (try simp only [natc, getI_gi, at2_0, at2_1]); (try dsimp only [Ty.den]); (try simp only [natc] at *); (repeat' (first | apply And.intro | intro _))))))
    all_goals (try ((try simp only [IfP_iff, and_true, true_and, decide_eq_true_eq, decide_eq_false_iff_not]); (try simp only [natc, getI_gi, at2_0, at2_1]); (try dsimp only [Ty.den]); (try simp only [natc] at *); (repeat' (first | apply And.intro | intro _))))
    all_goals (try (refine DrawL.layersS [] [2, 3] (fun _ _ => none) [([false, false, true, true, false, false, false, false, false, false], [0, 4, 8]), ([true, false, true, true, false, false, false, false, false, false], [1, 4, 8]), ([false, false, true, true, true, false, false, false, false, false], [0, 5, 8]), ([false, false, true, true, false, false, false, false, true, false], [0, 4]), ([true, true, true, true, false, false, false, false, false, false], [4, 8]), ([true, false, true, true, true, false, false, false, false, false], [1, 5, 8]), ([true, false, true, true, false, false, false, false, true, false], [1, 4]), ([false, false, true, true, true, true, false, false, false, false], [0, 8]), ([false, false, true, true, true, false, false, false, true, false], [0, 5]), ([true, true, true, true, true, false, false, false, false, false], [5, 8]), ([true, true, true, true, false, false, false, false, true, false], [4]), ([true, false, true, true, true, true, false, false, false, false], [1, 8]), ([true, false, true, true, true, false, false, false, true, false], [1, 5]), ([false, false, true, true, true, true, false, false, true, false], [0]), ([true, true, true, true, true, true, false, false, false, false], [6, 8]), ([true, true, true, true, true, false, false, false, true, false], [5]), ([true, false, true, true, true, true, false, false, true, false], [1]), ([true, true, true, true, true, true, true, false, false, false], [7, 8]), ([true, true, true, true, true, true, false, false, true, false], [6]), ([true, true, true, true, true, true, true, true, false, false], [8]), ([true, true, true, true, true, true, true, false, true, false], [7]), ([true, true, true, true, true, true, true, true, true, false], [9]), ([true, true, true, true, true, true, true, true, true, true], [])] (by kernel_rfl) (by rfl) ?_))
    all_goals (try (cbv; (repeat' (first | apply And.intro | apply EqU.mk)); all_goals (try (first | trivial | rfl))))
    all_goals (repeat' (first | ((first | refine call_q (sp_has (endsL l (s.take k.toNat)) _ g4) (by cbv) ?_ | refine call_pure (sp_has (endsL l (s.take k.toNat)) _ g4) (by cbv) ?_); cbv; ((try simp only [IfP_iff, and_true, true_and, decide_eq_true_eq, decide_eq_false_iff_not]); (try simp only [natc, getI_gi, at2_0, at2_1]); (try dsimp only [Ty.den]); (try simp only [natc] at *); (repeat' (first | apply And.intro | intro _))))))
    all_goals (try ((try simp only [IfP_iff, and_true, true_and, decide_eq_true_eq, decide_eq_false_iff_not]); (try simp only [natc, getI_gi, at2_0, at2_1]); (try dsimp only [Ty.den]); (try simp only [natc] at *); (repeat' (first | apply And.intro | intro _))))
    all_goals (try (refine DrawL.layersS [] [0] (fun l i => if ((i == 3) && l.getD 7 false) = true then some [0, 1, 2, 4, 3] else none) [([true, false, false, false, false, false, false, false, false, false], [1, 5]), ([true, true, false, false, false, false, false, false, false, false], [2, 5]), ([true, false, false, false, false, true, false, false, false, false], [1, 6]), ([true, true, true, false, false, false, false, false, false, false], [3, 5]), ([true, true, false, false, false, true, false, false, false, false], [2, 6]), ([true, false, false, false, false, true, true, false, false, false], [1, 7]), ([true, true, true, true, false, false, false, false, false, false], [4, 5]), ([true, true, true, false, false, true, false, false, false, false], [3, 6]), ([true, true, false, false, false, true, true, false, false, false], [2, 7]), ([true, false, false, false, false, true, true, true, false, false], [1]), ([true, true, true, true, true, false, false, false, false, false], [5]), ([true, true, true, true, false, true, false, false, false, false], [4, 6]), ([true, true, true, false, false, true, true, false, false, false], [3, 7]), ([true, true, false, false, false, true, true, true, false, false], [2]), ([true, true, true, true, true, true, false, false, false, false], [6]), ([true, true, true, true, false, true, true, false, false, false], [4, 7]), ([true, true, true, false, false, true, true, true, false, false], [3]), ([true, true, true, true, true, true, true, false, false, false], [7]), ([true, true, true, true, false, true, true, true, false, false], [4]), ([true, true, true, true, true, true, true, true, false, false], [8]), ([true, true, true, true, true, true, true, true, true, false], [9]), ([true, true, true, true, true, true, true, true, true, true], [])] (by kernel_rfl) (by rfl) ?_))
    all_goals (try (cbv; (repeat' (first | apply And.intro | apply EqU.mk)); all_goals (try (first | trivial | rfl))))
    all_goals (first
      | (refine RenL.mk ⟨[0, 1], ?_⟩
         cbv
         (simp only [IfP_iff, EqU_iff, Obl_iff, and_true, true_and, inI_iff, decide_eq_true_eq, decide_eq_false_iff_not]; (try simp only [natc, getI_gi, at2_0, at2_1]); (try dsimp only [Ty.den]); try simp only [natc] at *)
         exact nx (by assumption))
      | ((simp only [IfP_iff, EqU_iff, Obl_iff, and_true, true_and, inI_iff, decide_eq_true_eq, decide_eq_false_iff_not]; (try simp only [natc, getI_gi, at2_0, at2_1]); (try dsimp only [Ty.den]); try simp only [natc] at *); done)
      | ((try (simp only [IfP_iff, EqU_iff, Obl_iff, and_true, true_and, inI_iff, decide_eq_true_eq, decide_eq_false_iff_not]; (try simp only [natc, getI_gi, at2_0, at2_1]); (try dsimp only [Ty.den]); try simp only [natc] at *))
         (repeat' (first | apply And.intro | intro _)) <;> first | omega | (exact b1 (by assumption) (by assumption)) | (exact b2 (by assumption) (by assumption) (by assumption)) | (exact b3 (by assumption) (by assumption)) | (exact b4 (by assumption) (by assumption)) | (exact ok (by assumption) (.inl (by assumption)) (by assumption) (by assumption) _ (by omega) (by omega)) | (exact ok (by assumption) (.inr (by assumption)) (by assumption) (by assumption) _ (by omega) (by omega)) | (exact fin (by assumption)) | (exact nx (by assumption)) | (exact (a1 (by assumption)).1) | (exact (a1 (by assumption)).2) | (exact a1 (by assumption)) | (simp only [List.length_append, List.length_cons, List.length_nil]; omega) | trace_state)
      | trace_state)
end Go.Proofs.Ytjkmgdhndbdhoaa.M

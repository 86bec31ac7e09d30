/- Sets as ascending lists: a number taken away or put in, in the specification. -/
import Derived.Test.YthogfineaeklpaaKpQ
import Derived.Test.YthogfineaeklpaaQg
import Derived.Test.YthogfineaeklpaaDeQ
namespace Go.Proofs.Ythogfineaeklpaa.M
open Go.RowKit Abs
set_option linter.unusedSimpArgs false
set_option linter.unusedVariables false
set_option maxRecDepth 100000
set_option maxHeartbeats 4000000
theorem elem_getI {s : List Int} {i : Nat} (h : i < s.length) : (getI .int s (i : Int) : Int) = s[i] := by
  have := getI_get (t := .int) (l := s) (i := (i : Int)) (by omega) (by omega)
  simp only [Int.toNat_natCast] at this
  rw [List.getElem?_eq_getElem h] at this
  exact (Option.some.inj this).symm
theorem asc_pw {n : Int} {s : List Int} (h : ascB n s = true) : s.Pairwise (· < ·) := by
  rw [List.pairwise_iff_getElem]
  intro i j hi hj hij
  have := asc_lt' h (a := (i : Int)) (b := (j : Int)) (by omega) (by omega) (by omega)
  rwa [elem_getI hi, elem_getI hj] at this
theorem asc_pref {n : Int} {s : List Int} (h : ascB n s = true) : s = pref (hasB s) n.toNat := by
  refine asc_eq (asc_pw h) (pref_asc _ _) fun x => ?_
  rw [pref_mem, hasB_iff]
  constructor
  · intro hx
    have := asc_mem h x hx
    exact ⟨this.1, by omega, hx⟩
  · exact fun hx => hx.2.2
theorem pref_ascB (p : Int → Bool) (n : Int) : ascB n (pref p n.toNat) = true := by
  have hp := pref_asc p n.toNat
  rw [List.pairwise_iff_getElem] at hp
  refine allI_good fun k k0 k1 => ?_
  have hk : k.toNat < (pref p n.toNat).length := by omega
  have e : (getI .int (pref p n.toNat) k : Int) = (pref p n.toNat)[k.toNat] := by
    have := elem_getI hk
    rwa [Int.toNat_of_nonneg k0] at this
  have hm : (getI .int (pref p n.toNat) k : Int) ∈ pref p n.toNat := by rw [e]; exact List.getElem_mem hk
  rw [pref_mem] at hm
  unfold nodeOk
  rw [Bool.and_eq_true, Bool.and_eq_true, Bool.or_eq_true]
  refine ⟨⟨decide_eq_true hm.1, decide_eq_true (Int.lt_of_lt_of_le hm.2.1 (by omega))⟩, ?_⟩
  by_cases h0 : k ≤ 0
  · exact .inl (decide_eq_true h0)
  · right
    have hk1 : (k - 1).toNat < (pref p n.toNat).length := by omega
    have e1 : (getI .int (pref p n.toNat) (k - 1) : Int) = (pref p n.toNat)[(k - 1).toNat] := by
      have := elem_getI hk1
      rwa [Int.toNat_of_nonneg (by omega)] at this
    rw [decide_eq_true_eq]
    exact e1 ▸ e ▸ hp _ _ hk1 hk (by omega)
theorem pref_hasB {p : Int → Bool} {n : Nat} {y : Int} (h0 : 0 ≤ y) (h1 : y < n) : hasB (pref p n) y = p y := by
  rw [Bool.eq_iff_iff, hasB_iff, pref_mem]
  exact ⟨fun h => h.2.2, fun h => ⟨h0, h1, h⟩⟩
/-- Where a number is put in. -/
def kOf (s : List Int) (x : Int) : Int := if findI s (fun v => !decide (v < x)) < 0 then s.length else findI s fun v => !decide (v < x)
def putI (s : List Int) (x : Int) : List Int := s.take (kOf s x).toNat ++ [x] ++ s.drop (kOf s x).toNat
theorem kOf_hit {s : List Int} {x k : Int} (h0 : 0 ≤ k) (h1 : k < (s.length : Int)) (hq : ¬ getI .int s k < x) (hn : ∀ j : Int, 0 ≤ j → j < k → getI .int s j < x) : kOf s x = k := by
  have := findI_hit (l := s) (q := fun v => !decide (v < x)) h0 h1 (by simpa using hq) fun j a b => by simpa using hn j a b
  unfold kOf
  rw [this, if_neg (by omega)]
theorem kOf_none {s : List Int} {x : Int} (hn : ∀ j : Int, 0 ≤ j → j < (s.length : Int) → getI .int s j < x) : kOf s x = s.length := by
  have := findI_none (l := s) (q := fun v => !decide (v < x)) fun j a b => by simpa using hn j a b
  unfold kOf
  rw [this, if_pos (by omega)]
theorem kOf_spec (s : List Int) (x : Int) : 0 ≤ kOf s x ∧ kOf s x ≤ s.length ∧ (∀ j : Int, 0 ≤ j → j < kOf s x → getI .int s j < x) ∧ (kOf s x < s.length → ¬ getI .int s (kOf s x) < x) := by
  have key : ∀ m : Nat, m ≤ s.length → (∀ j : Int, 0 ≤ j → j < m → getI .int s j < x) ∨ ∃ k : Int, 0 ≤ k ∧ k < m ∧ ¬ getI .int s k < x ∧ ∀ j : Int, 0 ≤ j → j < k → getI .int s j < x := fun m => by
    induction m with
    | zero => exact fun _ => .inl fun j a b => by omega
    | succ m ih =>
      intro hm
      rcases ih (by omega) with h | ⟨k, a, b, c, d⟩
      · by_cases hx : (getI .int s (m : Int) : Int) < x
        · left
          intro j a b
          by_cases hj : j = m
          · rw [hj]; exact hx
          · exact h j a (by omega)
        · exact .inr ⟨m, by omega, by omega, hx, h⟩
      · exact .inr ⟨k, a, by omega, c, d⟩
  rcases key s.length (Nat.le_refl _) with h | ⟨k, a, b, c, d⟩
  · rw [kOf_none h]
    exact ⟨by omega, by omega, h, fun q => by omega⟩
  · rw [kOf_hit a b c d]
    exact ⟨a, by omega, d, fun _ => c⟩
theorem putI_mem {s : List Int} {x v : Int} : v ∈ putI s x ↔ v = x ∨ v ∈ s := by
  unfold putI
  have : v ∈ s ↔ v ∈ s.take (kOf s x).toNat ∨ v ∈ s.drop (kOf s x).toNat := by rw [← List.mem_append, List.take_append_drop]
  rw [List.mem_append, List.mem_append, List.mem_singleton, this]
  constructor
  · rintro ((h | h) | h)
    · exact .inr (.inl h)
    · exact .inl h
    · exact .inr (.inr h)
  · rintro (h | h | h)
    · exact .inl (.inr h)
    · exact .inl (.inl h)
    · exact .inr h
theorem putI_asc {s : List Int} {x : Int} (hs : s.Pairwise (· < ·)) (hx : x ∉ s) : (putI s x).Pairwise (· < ·) := by
  obtain ⟨k0, k1, k2, k3⟩ := kOf_spec s x
  have hlo : ∀ a ∈ s.take (kOf s x).toNat, a < x := fun a ha => by
    obtain ⟨j, hj, rfl⟩ := List.mem_iff_getElem.1 ha
    rw [List.length_take] at hj
    rw [List.getElem_take, ← elem_getI (by omega)]
    exact k2 j (by omega) (by omega)
  have hhi : ∀ b ∈ s.drop (kOf s x).toNat, x < b := fun b hb => by
    obtain ⟨j, hj, rfl⟩ := List.mem_iff_getElem.1 hb
    rw [List.length_drop] at hj
    rw [List.getElem_drop]
    have h3 := k3 (by omega)
    have hk : (kOf s x).toNat < s.length := by omega
    have e := elem_getI hk
    rw [Int.toNat_of_nonneg k0] at e
    rw [e] at h3
    have hge : s[(kOf s x).toNat] ≤ s[(kOf s x).toNat + j] := by
      by_cases hj0 : j = 0
      · subst hj0; exact Int.le_refl _
      · exact Int.le_of_lt (List.pairwise_iff_getElem.1 hs _ _ hk (by omega) (by omega))
    have hne : s[(kOf s x).toNat + j] ≠ x := fun h => hx (h ▸ List.getElem_mem (by omega))
    exact (Int.lt_or_gt_of_ne hne).resolve_left (Int.not_lt.2 (Int.le_trans (Int.not_lt.1 h3) hge))
  unfold putI
  rw [List.pairwise_append, List.pairwise_append]
  refine ⟨⟨hs.sublist (List.take_sublist _ _), List.pairwise_singleton _ _, fun a ha b hb => ?_⟩, hs.sublist (List.drop_sublist _ _), fun a ha b hb => ?_⟩
  · rw [List.mem_singleton] at hb
    rw [hb]
    exact hlo a ha
  · rcases List.mem_append.1 ha with ha | ha
    · exact Int.lt_trans (hlo a ha) (hhi b hb)
    · rw [List.mem_singleton] at ha
      rw [ha]
      exact hhi b hb
def outX (x v : Int) : Bool := !decide (v = x)
/-- A set with a number turned. -/
def turnL (s : List Int) (x : Int) : List Int := if hasB s x = true then s.filter (outX x) else putI s x
theorem turn_eq {n x : Int} {s : List Int} (ha : ascB n s = true) (h0 : 0 ≤ x) (h1 : x < n) : turnL s x = pref (flipP (hasB s) x) n.toNat := by
  unfold turnL
  split
  · rename_i hx
    refine asc_eq ((asc_pw ha).sublist List.filter_sublist) (pref_asc _ _) fun v => ?_
    rw [List.mem_filter, pref_mem]
    unfold outX flipP
    constructor
    · rintro ⟨hv, hn⟩
      have := asc_mem ha v hv
      rw [Bool.not_eq_true'] at hn
      exact ⟨this.1, by omega, by rw [hasB_iff.2 hv, hn]; rfl⟩
    · rintro ⟨v0, v1, hv⟩
      by_cases hvx : v = x
      · rw [hvx, hx] at hv; simp at hv
      · rw [show decide (v = x) = false by simpa using hvx] at hv ⊢
        exact ⟨hasB_iff.1 (by simpa using hv), rfl⟩
  · rename_i hx
    have hx' : x ∉ s := fun h => hx (hasB_iff.2 h)
    refine asc_eq (putI_asc (asc_pw ha) hx') (pref_asc _ _) fun v => ?_
    rw [putI_mem, pref_mem]
    unfold flipP
    constructor
    · rintro (h | h)
      · rw [h, show hasB s x = false by simpa using hx]
        exact ⟨h0, by omega, by simp⟩
      · have := asc_mem ha v h
        refine ⟨this.1, by omega, ?_⟩
        rw [hasB_iff.2 h, show decide (v = x) = false by rw [decide_eq_false_iff_not]; intro e; exact hx' (e ▸ h)]
        rfl
    · rintro ⟨v0, v1, hv⟩
      by_cases hvx : v = x
      · exact .inl hvx
      · rw [show decide (v = x) = false by simpa using hvx] at hv
        exact .inr (hasB_iff.1 (by simpa using hv))
theorem turn_len (s : List Int) (x : Int) : (turnL s x).length ≤ s.length + 1 := by
  unfold turnL
  split
  · have := List.length_filter_le (outX x) s; omega
  · unfold putI
    rw [List.length_append, List.length_append, List.length_take, List.length_drop, List.length_singleton]
    omega
theorem filt_next {s : List Int} {q : Int → Bool} {k : Int} (h0 : 0 ≤ k) (h1 : k < (s.length : Int)) : (s.take (k + 1).toNat).filter q = (s.take k.toNat).filter q ++ if q (gi s k) = true then [gi s k] else [] := by
  rw [take_gi h0 h1, List.filter_append]
  congr 1
  by_cases h : q (gi s k) = true
  · rw [List.filter_cons_of_pos h, if_pos h]; rfl
  · rw [List.filter_cons_of_neg h, if_neg h]; rfl
theorem sp_without (s : List Int) (x : Int) (hs : s.length ≤ 1048576) : Spec2 Try.prog 106 [.sl .int fun _ => s, .int fun _ => x] [] [.ref 0] [some (.row 3 .int fun _ => s.filter (outX x))] := by
  refine fnS [0] [4] Try.func106 rfl (by decide) rfl (by decide) (by kernel_rfl) rfl (by simp [Try.ntmps106]) ?_
  cbv
  refine loopP (by kernel_rfl) (fun k : Int => 0 ≤ k ∧ k ≤ s.length) (fun k => [(6, .int fun _ => k), (5, .ref 0), (7, .junk)]) (fun k => [(0, some (.row 3 .int fun _ => (s.take k.toNat).filter (outX x)))]) (fun k => (s.length - k).toNat) (· + 1) 0 (by simp) ?_ ?_
  · cbv
    (simp only [IfP_iff, EqU_iff, Obl_iff, and_true, true_and, inI_iff, decide_eq_true_eq, decide_eq_false_iff_not]; (try simp only [natc, getI_gi, at2_0, at2_1]); (try dsimp only [Ty.den]); try simp only [natc] at *)
    simp
  · intro k hk
    have h1 := filt_next (s := s) (q := outX x) (k := k) hk.1
    have h2 : ((s.take k.toNat).filter (outX x)).length ≤ 1048576 := Nat.le_trans (List.length_filter_le _ _) (by rw [List.length_take]; omega)
    have h3 : ¬ k < (s.length : Int) → s.take k.toNat = s := fun h => List.take_of_length_le (by omega)
    have h4 : outX x (gi s k) = !decide (gi s k = x) := rfl
    cbv
    ((try simp only [IfP_iff, and_true, true_and, decide_eq_true_eq, decide_eq_false_iff_not]); (try simp only [natc, getI_gi, at2_0, at2_1]); (try dsimp only [Ty.den]); (try simp only [natc] at *); (repeat' (first | apply And.intro | intro _)))
    all_goals (try (simp only [IfP_iff, EqU_iff, Obl_iff, and_true, true_and, inI_iff, decide_eq_true_eq, decide_eq_false_iff_not]; (try simp only [natc, getI_gi, at2_0, at2_1]); (try dsimp only [Ty.den]); try simp only [natc] at *))
    all_goals ((repeat' (first | apply And.intro | intro _)) <;> first | omega | (simp only [List.length_append, List.length_cons, List.length_nil]; omega) | grind)
theorem subL_take (s : List Int) (k : Int) : subL s 0 k = s.take k.toNat := by
  unfold subL
  rw [show (0 : Int).toNat = 0 from rfl, List.drop_zero]
theorem subL_drop (s : List Int) (k : Int) : subL s k (s.length : Int) = s.drop k.toNat := by
  unfold subL
  rw [Int.toNat_natCast, List.take_length]
theorem sp_put (s : List Int) (x : Int) (hs : s.length ≤ 1048576) (hx : hasB s x = false) : Spec2 Try.prog 107 [.sl .int fun _ => s, .int fun _ => x] [] [.ref 0] [some (.row 3 .int fun _ => putI s x)] := by
  have hx' : ∀ k : Int, 0 ≤ k → k < s.length → gi s k ≠ x := fun k a b h => by
    have : hasB s x = true := hasB_iff.2 (h ▸ gi_mem a b)
    rw [hx] at this
    cases this
  have h5 : putI s x = _ := rfl
  conv at h5 => rhs; unfold putI
  refine fnE [6] [0] [4] Try.func107 rfl (by decide) rfl (by decide) (by kernel_rfl) rfl (by simp [Try.ntmps107]) ?_
  cbv
  refine loopP (by kernel_rfl) (fun k : Int => 0 ≤ k ∧ k ≤ s.length ∧ ∀ j : Int, 0 ≤ j → j < k → gi s j < x) (fun k => [(5, .int fun _ => k)]) (fun _ => []) (fun k => (s.length - k).toNat) (· + 1) 0 (by grind) ?_ ?_
  · cbv
    (simp only [IfP_iff, EqU_iff, Obl_iff, and_true, true_and, inI_iff, decide_eq_true_eq, decide_eq_false_iff_not]; (try simp only [natc, getI_gi, at2_0, at2_1]); (try dsimp only [Ty.den]); try simp only [natc] at *)
  · intro k hk
    have h1 : k < (s.length : Int) → ¬ gi s k < x → kOf s x = k := fun a b => kOf_hit (s := s) (x := x) (k := k) hk.1 a b hk.2.2
    have h2 : ¬ k < (s.length : Int) → kOf s x = s.length := fun a => kOf_none (s := s) (x := x) fun j b c => hk.2.2 j b (by omega)
    have h4 := upTo (p := fun j => decide (gi s j < x)) (k := k) fun j a b => decide_eq_true (hk.2.2 j a b)
    simp only [decide_eq_true_eq] at h4
    have h3 := hx' k hk.1
    clear hx'
    have h6 := subL_take s k
    have h7 := subL_drop s k
    have h8 : (s.take k.toNat).length ≤ 1048576 := by rw [List.length_take]; omega
    have h9 : (s.drop k.toNat).length ≤ 1048576 := by rw [List.length_drop]; omega
    cbv
    ((try simp only [IfP_iff, and_true, true_and, decide_eq_true_eq, decide_eq_false_iff_not]); (try simp only [natc, getI_gi, at2_0, at2_1]); (try dsimp only [Ty.den]); (try simp only [natc] at *); (repeat' (first | apply And.intro | intro _)))
    all_goals (try (refine DrawL.layersR [] [1, 2, 5, 8, 9] (fun l i => if ((i == 0) && l.getD 6 false) = true then some [1, 0] else none) [([false, true, true, false, false, true, false, false, true, true, false, false, false], [0, 3, 6, 10]), ([true, true, true, false, false, true, false, false, true, true, false, false, false], [3, 6, 10]), ([false, true, true, true, false, true, false, false, true, true, false, false, false], [0, 6, 10]), ([false, true, true, false, false, true, true, false, true, true, false, false, false], [0, 3, 10]), ([false, true, true, false, false, true, false, false, true, true, true, false, false], [0, 3, 6]), ([true, true, true, true, false, true, false, false, true, true, false, false, false], [4, 6, 10]), ([true, true, true, false, false, true, true, false, true, true, false, false, false], [3, 10]), ([true, true, true, false, false, true, false, false, true, true, true, false, false], [3, 6]), ([false, true, true, true, false, true, true, false, true, true, false, false, false], [0, 10]), ([false, true, true, true, false, true, false, false, true, true, true, false, false], [0, 6]), ([false, true, true, false, false, true, true, false, true, true, true, false, false], [0, 3]), ([true, true, true, true, true, true, false, false, true, true, false, false, false], [6, 10]), ([true, true, true, true, false, true, true, false, true, true, false, false, false], [4, 10]), ([true, true, true, true, false, true, false, false, true, true, true, false, false], [4, 6]), ([true, true, true, false, false, true, true, false, true, true, true, false, false], [3]), ([false, true, true, true, false, true, true, false, true, true, true, false, false], [0]), ([true, true, true, true, true, true, true, false, true, true, false, false, false], [7, 10]), ([true, true, true, true, true, true, false, false, true, true, true, false, false], [6]), ([true, true, true, true, false, true, true, false, true, true, true, false, false], [4]), ([true, true, true, true, true, true, true, true, true, true, false, false, false], [10]), ([true, true, true, true, true, true, true, false, true, true, true, false, false], [7]), ([true, true, true, true, true, true, true, true, true, true, true, false, false], [11]), ([true, true, true, true, true, true, true, true, true, true, true, true, false], [12]), ([true, true, true, true, true, true, true, true, true, true, true, true, true], [])] (by kernel_rfl) (by rfl) ?_))
    all_goals (try (cbv; (repeat' (first | apply And.intro | apply EqU.mk)); all_goals (try (first | trivial | rfl))))
    all_goals (try (simp only [IfP_iff, EqU_iff, Obl_iff, and_true, true_and, inI_iff, decide_eq_true_eq, decide_eq_false_iff_not]; (try simp only [natc, getI_gi, at2_0, at2_1]); (try dsimp only [Ty.den]); try simp only [natc] at *))
    all_goals (first
      | omega
      | (simp only [h6, h7, List.length_append, List.length_nil, List.length_cons]; omega)
      | (exact absurd (by assumption) (h3 (by assumption)))
      | (rw [h5, h1 (by assumption) (by assumption), List.nil_append, h6, h7])
      | (have hz : kOf s x = k := by
          rw [h2 (by assumption)]
          omega
         rw [h5, hz, List.nil_append, h6, h7])
      | (refine ⟨⟨by omega, by omega, h4 (by assumption)⟩, by omega⟩)
      | grind)
theorem sp_turned (s : List Int) (x : Int) (hs : s.length ≤ 1048576) : Spec2 Try.prog 74 [.sl .int fun _ => s, .int fun _ => x] [] [.ref 0] [some (.row 3 .int fun _ => turnL s x)] := by
  have h5 : turnL s x = _ := rfl
  conv at h5 => rhs; unfold turnL
  cases hb : hasB s x with
  | true =>
    have h6 : turnL s x = s.filter (outX x) := by rw [h5, if_pos hb]
    rw [h6]
    refine fnS [0] [4] Try.func74 rfl (by decide) rfl (by decide) (by kernel_rfl) rfl (by simp [Try.ntmps74]) ?_
    cbv
    repeat' (first | ((first | refine call_q (sp_has s x hs) (by cbv) ?_ | refine call_pure (sp_has s x hs) (by cbv) ?_); cbv; ((try simp only [IfP_iff, and_true, true_and, decide_eq_true_eq, decide_eq_false_iff_not]); (try simp only [natc, getI_gi, at2_0, at2_1]); (try dsimp only [Ty.den]); (try simp only [natc] at *); (repeat' (first | apply And.intro | intro _)))) | ((first | refine call_q (sp_without s x hs) (by cbv) ?_ | refine call_pure (sp_without s x hs) (by cbv) ?_); cbv; ((try simp only [IfP_iff, and_true, true_and, decide_eq_true_eq, decide_eq_false_iff_not]); (try simp only [natc, getI_gi, at2_0, at2_1]); (try dsimp only [Ty.den]); (try simp only [natc] at *); (repeat' (first | apply And.intro | intro _)))))
    all_goals (try (simp only [IfP_iff, EqU_iff, Obl_iff, and_true, true_and, inI_iff, decide_eq_true_eq, decide_eq_false_iff_not]; (try simp only [natc, getI_gi, at2_0, at2_1]); (try dsimp only [Ty.den]); try simp only [natc] at *))
    all_goals (try (exact absurd (by assumption : hasB s x = false) (by rw [hb]; decide)))
    all_goals (exfalso; rw [hb] at *; simp_all)
  | false =>
    have h6 : turnL s x = putI s x := by rw [h5, if_neg (by rw [hb]; decide)]
    rw [h6]
    refine fnS [0] [4] Try.func74 rfl (by decide) rfl (by decide) (by kernel_rfl) rfl (by simp [Try.ntmps74]) ?_
    cbv
    repeat' (first | ((first | refine call_q (sp_has s x hs) (by cbv) ?_ | refine call_pure (sp_has s x hs) (by cbv) ?_); cbv; ((try simp only [IfP_iff, and_true, true_and, decide_eq_true_eq, decide_eq_false_iff_not]); (try simp only [natc, getI_gi, at2_0, at2_1]); (try dsimp only [Ty.den]); (try simp only [natc] at *); (repeat' (first | apply And.intro | intro _)))) | ((first | refine call_q (sp_put s x hs hb) (by cbv) ?_ | refine call_pure (sp_put s x hs hb) (by cbv) ?_); cbv; ((try simp only [IfP_iff, and_true, true_and, decide_eq_true_eq, decide_eq_false_iff_not]); (try simp only [natc, getI_gi, at2_0, at2_1]); (try dsimp only [Ty.den]); (try simp only [natc] at *); (repeat' (first | apply And.intro | intro _)))))
    all_goals (try (simp only [IfP_iff, EqU_iff, Obl_iff, and_true, true_and, inI_iff, decide_eq_true_eq, decide_eq_false_iff_not]; (try simp only [natc, getI_gi, at2_0, at2_1]); (try dsimp only [Ty.den]); try simp only [natc] at *))
    all_goals (exfalso; rw [hb] at *; simp_all)
end Go.Proofs.Ythogfineaeklpaa.M

/- SlideTokens, on both sides. -/
import Derived.Test.YtoejmijcikehdaaVlQ
import Derived.Test.YtoejmijcikehdaaQg
namespace Go.Proofs.Ytoejmijcikehdaa.M
open Go.RowKit Abs
set_option linter.unusedSimpArgs false
set_option linter.unusedVariables false
set_option maxRecDepth 100000
set_option maxHeartbeats 4000000
def sldN (p list : List Int) : Nat → List Int
  | 0 => p
  | k + 1 => swp (sldN p list k) (gi list k) (atI (sldN p list k) 0)
def sldP (p list : List Int) (k : Int) : List Int := sldN p list k.toNat
def sldQ (l : List (Int × Int)) (p list : List Int) (k : Int) : Bool := nearB l (gi list k) (atI (sldP p list k) 0)
def sldB (n : Int) (l : List (Int × Int)) (p list : List Int) : Bool := bdB n l p && allI list.length (sldQ l p list)
def sldR (n : Int) (l : List (Int × Int)) (p list : List Int) : List Int := if sldB n l p list = true then sldP p list list.length else []
theorem sldP_next {p list : List Int} {k : Int} (h0 : 0 ≤ k) : sldP p list (k + 1) = swp (sldP p list k) (gi list k) (atI (sldP p list k) 0) := by
  unfold sldP
  rw [show (k + 1).toNat = k.toNat + 1 by omega]
  show swp (sldN p list k.toNat) (gi list (k.toNat : Int)) (atI (sldN p list k.toNat) 0) = _
  rw [Int.toNat_of_nonneg h0]
theorem sldN_ok {n : Int} {l : List (Int × Int)} {p list : List Int} (h : bdB n l p = true) : ∀ k : Nat, (∀ j : Int, 0 ≤ j → j < k → sldQ l p list j = true) → permB (sldN p list k) = true ∧ (sldN p list k).length = p.length
  | 0, _ => ⟨(bd_in h).2.2.2.2, rfl⟩
  | k + 1, hq => by
    obtain ⟨i1, i2⟩ := sldN_ok h k fun j a b => hq j a (by omega)
    have hb := bd_in h
    have hk : nearB l (gi list k) (atI (sldN p list k) 0) = true := by
      have := hq k (by omega) (by omega)
      unfold sldQ sldP at this
      rw [show ((k : Int)).toNat = k by omega] at this
      exact this
    have hr := near_rng hb.2.2.1 hk
    show permB (swp (sldN p list k) (gi list k) (atI (sldN p list k) 0)) = true ∧ (swp (sldN p list k) (gi list k) (atI (sldN p list k) 0)).length = p.length
    exact ⟨perm_swp i1 hr.1.1 (by omega) hr.2.1 (by omega), by rw [swp_len]; exact i2⟩
theorem sldP_ok {n : Int} {l : List (Int × Int)} {p list : List Int} (h : bdB n l p = true) {k : Int} (h0 : 0 ≤ k) (hq : ∀ j : Int, 0 ≤ j → j < k → sldQ l p list j = true) : permB (sldP p list k) = true ∧ (sldP p list k).length = p.length :=
  sldN_ok h k.toNat fun j a b => hq j a (by omega)
theorem sld_bad {n : Int} {l : List (Int × Int)} {p list : List Int} {k : Int} (h0 : 0 ≤ k) (h1 : k < (list.length : Int)) (h : sldQ l p list k = false) : sldR n l p list = [] ∧ sldB n l p list = false := by
  have : sldB n l p list = false := by unfold sldB; rw [allI_bad h0 h1 h, Bool.and_false]
  exact ⟨by unfold sldR; rw [this, if_neg (by decide)], this⟩
theorem sld_good {n : Int} {l : List (Int × Int)} {p list : List Int} (hb : bdB n l p = true) (h : ∀ j : Int, 0 ≤ j → j < (list.length : Int) → sldQ l p list j = true) : sldR n l p list = sldP p list list.length ∧ sldB n l p list = true := by
  have : sldB n l p list = true := by unfold sldB; rw [hb, allI_good h]; rfl
  exact ⟨by unfold sldR; rw [this, if_pos rfl], this⟩
theorem sld_none {n : Int} {l : List (Int × Int)} {p list : List Int} (hb : bdB n l p = false) : sldR n l p list = [] ∧ sldB n l p list = false := by
  have : sldB n l p list = false := by unfold sldB; rw [hb]; rfl
  exact ⟨by unfold sldR; rw [this, if_neg (by decide)], this⟩
theorem sldR_len (n : Int) (l : List (Int × Int)) (p list : List Int) : (sldR n l p list).length ≤ 1048576 := by
  unfold sldR
  split
  · rename_i h
    unfold sldB at h
    rw [Bool.and_eq_true] at h
    have hb := bd_in h.1
    have := (sldP_ok (list := list) (k := list.length) h.1 (by omega) fun j a b => allI_get h.2 a (by omega)).2
    omega
  · simp
theorem sld_place {n : Int} {l : List (Int × Int)} {p list : List Int} {k : Int} (h : bdB n l p = true) (h0 : 0 ≤ k) (hq : ∀ j : Int, 0 ≤ j → j < k → sldQ l p list j = true) : Spec2 Try.prog 58 [.agg (.pr .int (.ar 7 .int)) fun _ => (gi ((p.length : Int) :: padO (sldP p list k)) 0, List.drop 1 ((p.length : Int) :: padO (sldP p list k))), .int fun _ => 0] [] [.int fun _ => atI (sldP p list k) 0] [] := by
  obtain ⟨g1, g2⟩ := sldP_ok h h0 hq
  have hb := bd_in h
  have e4 : (padO (sldP p list k)).length = 8 := padO_len (by omega)
  have e5 : (padO (sldP p list k)).take ((p.length : Int)).toNat = sldP p list k := by
    rw [← g2, Int.toNat_natCast]
    exact padO_take
  have c1 := im_permPlace2 (p.length : Int) 0 (padO (sldP p list k)) e4 (by omega) (by omega)
  rw [e5] at c1
  exact c1
theorem sld_swap {n : Int} {l : List (Int × Int)} {p list : List Int} {k : Int} (h : bdB n l p = true) (h0 : 0 ≤ k) (hq : ∀ j : Int, 0 ≤ j → j < k → sldQ l p list j = true) (hk : sldQ l p list k = true) : Spec2 Try.prog 59 [.agg (.pr .int (.ar 7 .int)) fun _ => (gi ((p.length : Int) :: padO (sldP p list k)) 0, List.drop 1 ((p.length : Int) :: padO (sldP p list k))), .agg (.pr .int .int) fun _ => (gi list k, atI (sldP p list k) 0)] [] [.agg (.pr .int (.ar 7 .int)) fun _ => ((p.length : Int), padO (sldP p list (k + 1)))] [] := by
  obtain ⟨g1, g2⟩ := sldP_ok h h0 hq
  have hb := bd_in h
  have e4 : (padO (sldP p list k)).length = 8 := padO_len (by omega)
  have hr := near_rng hb.2.2.1 (show nearB l (gi list k) (atI (sldP p list k) 0) = true from hk)
  have c1 := im_swapped2 (p.length : Int) (padO (sldP p list k)) (gi list k, atI (sldP p list k) 0) e4 hr.1.1 (by show gi list k < 8; omega) hr.2.1 (by show atI (sldP p list k) 0 < 8; omega)
  rw [show swp (padO (sldP p list k)) (gi list k, atI (sldP p list k) 0).1 (gi list k, atI (sldP p list k) 0).2 = padO (sldP p list (k + 1)) by
    rw [sldP_next h0]
    exact swp_pad hr.1.1 (by omega) hr.2.1 (by omega)] at c1
  exact c1
theorem sld_list {n : Int} {l : List (Int × Int)} {p list : List Int} {k : Int} (h : bdB n l p = true) (h0 : 0 ≤ k) (hq : ∀ j : Int, 0 ≤ j → j < k → sldQ l p list j = true) : Spec2 Try.prog 64 [.agg (.pr .int (.ar 7 .int)) fun _ => (gi ((p.length : Int) :: padO (sldP p list k)) 0, List.drop 1 ((p.length : Int) :: padO (sldP p list k)))] [] [.ref 0] [some (.row 3 .int fun _ => sldP p list k)] := by
  obtain ⟨g1, g2⟩ := sldP_ok h h0 hq
  have hb := bd_in h
  have e4 : (padO (sldP p list k)).length = 8 := padO_len (by omega)
  have e5 : (padO (sldP p list k)).take ((p.length : Int)).toNat = sldP p list k := by
    rw [← g2, Int.toNat_natCast]
    exact padO_take
  have c1 := im_permList2 (p.length : Int) (padO (sldP p list k)) e4 (by omega) (by omega)
  rw [e5] at c1
  exact c1
theorem im_slideTokens (n : Int) (l : List (Int × Int)) (p list : List Int) (hl : l.length ≤ 1048576) (hp : p.length ≤ 1048576) (hs : list.length ≤ 1048576) : Spec2 Try.prog 43 [.agg (.pr .int (.sl (.pr .int .int))) fun _ => (n, l), .sl .int fun _ => p, .sl .int fun _ => list] [] [.ref 0, .bool fun _ => sldB n l p list] [some (.row 3 .int fun _ => sldR n l p list)] := by
  have hq := im_boardOn n l p hl hp
  cases hb : bdB n l p with
  | false =>
    rw [hb, show bdV n l p = (0, List.replicate 8 0) by unfold bdV; rw [hb, if_neg (by decide)]] at hq
    obtain ⟨n1, n2⟩ := sld_none (list := list) hb
    rw [n1, n2]
    clear n1 n2
    refine fnS [2] [6, 7] Try.func43 rfl (by decide) rfl (by decide) (by kernel_rfl) rfl (by simp [Try.ntmps43]) ?_
    cbv
    ((try simp only [IfP_iff, and_true, true_and, decide_eq_true_eq, decide_eq_false_iff_not]); (try simp only [natc, getI_gi, at2_0, at2_1]); (try dsimp only [Ty.den]); (try simp only [natc] at *); (repeat' (first | apply And.intro | intro _)))
    all_goals (repeat' (first | ((first | refine call_q hq (by cbv) ?_ | refine call_pure hq (by cbv) ?_); cbv; ((try simp only [IfP_iff, and_true, true_and, decide_eq_true_eq, decide_eq_false_iff_not]); (try simp only [natc, getI_gi, at2_0, at2_1]); (try dsimp only [Ty.den]); (try simp only [natc] at *); (repeat' (first | apply And.intro | intro _))))))
    all_goals (try (exact absurd (by assumption : (!false) = false) (by decide)))
    all_goals (try (simp only [IfP_iff, EqU_iff, Obl_iff, and_true, true_and, inI_iff, decide_eq_true_eq, decide_eq_false_iff_not]; (try simp only [natc, getI_gi, at2_0, at2_1]); (try dsimp only [Ty.den]); try simp only [natc] at *))
    all_goals (first | exact ⟨rfl, rfl⟩ | rfl | trace_state)
  | true =>
    rw [hb, show bdV n l p = ((p.length : Int), padO p) by unfold bdV; rw [hb, if_pos rfl]] at hq
    have hg := (bd_in hb).2.2.1
    refine fnS [2] [6, 7] Try.func43 rfl (by decide) rfl (by decide) (by kernel_rfl) rfl (by simp [Try.ntmps43]) ?_
    cbv
    ((try simp only [IfP_iff, and_true, true_and, decide_eq_true_eq, decide_eq_false_iff_not]); (try simp only [natc, getI_gi, at2_0, at2_1]); (try dsimp only [Ty.den]); (try simp only [natc] at *); (repeat' (first | apply And.intro | intro _)))
    all_goals (repeat' (first | ((first | refine call_q hq (by cbv) ?_ | refine call_pure hq (by cbv) ?_); cbv; ((try simp only [IfP_iff, and_true, true_and, decide_eq_true_eq, decide_eq_false_iff_not]); (try simp only [natc, getI_gi, at2_0, at2_1]); (try dsimp only [Ty.den]); (try simp only [natc] at *); (repeat' (first | apply And.intro | intro _))))))
    all_goals (try (exact absurd (by assumption : (!true) = true) (by decide)))
    refine loopX (by kernel_rfl) (fun k : Int => 0 ≤ k ∧ k ≤ list.length ∧ ∀ j : Int, 0 ≤ j → j < k → sldQ l p list j = true) (fun k => [(24, .int fun _ => k)]) (fun k => [(1, some (.arr 70 8 .int fun _ => (p.length : Int) :: padO (sldP p list k)))]) (fun k => (list.length - k).toNat) (· + 1) 0 (by grind) ?_ ?_
    · cbv
      (simp only [IfP_iff, EqU_iff, Obl_iff, and_true, true_and, inI_iff, decide_eq_true_eq, decide_eq_false_iff_not]; (try simp only [natc, getI_gi, at2_0, at2_1]); (try dsimp only [Ty.den]); try simp only [natc] at *)
      rfl
    · intro k hk
      have i1 := upTo (p := fun j => sldQ l p list j) (k := k) hk.2.2
      have i5 : k < (list.length : Int) → (!nearB l (gi list k) (atI (sldP p list k) 0)) = true → sldR n l p list = [] ∧ sldB n l p list = false := fun a b => sld_bad hk.1 a (show nearB l (gi list k) (atI (sldP p list k) 0) = false by simpa using b)
      have i6 : ¬ k < (list.length : Int) → sldR n l p list = sldP p list k ∧ sldB n l p list = true := fun h => by
        have e : k = list.length := by omega
        have := sld_good (l := l) (list := list) hb fun j a b => hk.2.2 j a (by omega)
        rw [← e] at this
        exact this
      have c1 := sld_place hb hk.1 hk.2.2
      have c2 : (!nearB l (gi list k) (atI (sldP p list k) 0)) = false → _ := fun h => sld_swap hb hk.1 hk.2.2 (show sldQ l p list k = true by unfold sldQ; simpa using h)
      have c3 := sld_list hb hk.1 hk.2.2
      have c4 := im_areNeighbors n l (gi list k) (atI (sldP p list k) 0) hl hg
      have i8 : (!nearB l (gi list k) (atI (sldP p list k) 0)) = false → ∀ j : Int, 0 ≤ j → j < k + 1 → sldQ l p list j = true := fun h => i1 (show sldQ l p list k = true by unfold sldQ; simpa using h)
      clear i1
      cbv
      ((try simp only [IfP_iff, and_true, true_and, decide_eq_true_eq, decide_eq_false_iff_not]); (try simp only [natc, getI_gi, at2_0, at2_1]); (try dsimp only [Ty.den]); (try simp only [natc] at *); (repeat' (first | apply And.intro | intro _)))
      all_goals (repeat' (first | ((first | refine call_q c1 (by cbv) ?_ | refine call_pure c1 (by cbv) ?_); cbv; ((try simp only [IfP_iff, and_true, true_and, decide_eq_true_eq, decide_eq_false_iff_not]); (try simp only [natc, getI_gi, at2_0, at2_1]); (try dsimp only [Ty.den]); (try simp only [natc] at *); (repeat' (first | apply And.intro | intro _)))) | ((first | refine call_q c4 (by cbv) ?_ | refine call_pure c4 (by cbv) ?_); cbv; ((try simp only [IfP_iff, and_true, true_and, decide_eq_true_eq, decide_eq_false_iff_not]); (try simp only [natc, getI_gi, at2_0, at2_1]); (try dsimp only [Ty.den]); (try simp only [natc] at *); (repeat' (first | apply And.intro | intro _)))) | ((first | refine call_q (c2 (by assumption)) (by cbv) ?_ | refine call_pure (c2 (by assumption)) (by cbv) ?_); cbv; ((try simp only [IfP_iff, and_true, true_and, decide_eq_true_eq, decide_eq_false_iff_not]); (try simp only [natc, getI_gi, at2_0, at2_1]); (try dsimp only [Ty.den]); (try simp only [natc] at *); (repeat' (first | apply And.intro | intro _)))) | ((first | refine call_q c3 (by cbv) ?_ | refine call_pure c3 (by cbv) ?_); cbv; ((try simp only [IfP_iff, and_true, true_and, decide_eq_true_eq, decide_eq_false_iff_not]); (try simp only [natc, getI_gi, at2_0, at2_1]); (try dsimp only [Ty.den]); (try simp only [natc] at *); (repeat' (first | apply And.intro | intro _))))))
      all_goals (try clear c1 c2 c3 c4)
      all_goals (try (show Obl _; (simp only [IfP_iff, EqU_iff, Obl_iff, and_true, true_and, inI_iff, decide_eq_true_eq, decide_eq_false_iff_not]; (try simp only [natc, getI_gi, at2_0, at2_1]); (try dsimp only [Ty.den]); try simp only [natc] at *); ((repeat' (first | apply And.intro | intro _)) <;> first | omega | (exact i8 (by assumption) _ (by assumption) (by assumption)))))
      · (simp only [IfP_iff, EqU_iff, Obl_iff, and_true, true_and, inI_iff, decide_eq_true_eq, decide_eq_false_iff_not]; (try simp only [natc, getI_gi, at2_0, at2_1]); (try dsimp only [Ty.den]); try simp only [natc] at *)
        exact (i5 (by assumption) (by assumption)).2.symm
      · (simp only [IfP_iff, EqU_iff, Obl_iff, and_true, true_and, inI_iff, decide_eq_true_eq, decide_eq_false_iff_not]; (try simp only [natc, getI_gi, at2_0, at2_1]); (try dsimp only [Ty.den]); try simp only [natc] at *)
        exact (i5 (by assumption) (by assumption)).1.symm
      · refine RenL.mk ⟨[0, 1], ?_⟩
        cbv
        (simp only [IfP_iff, EqU_iff, Obl_iff, and_true, true_and, inI_iff, decide_eq_true_eq, decide_eq_false_iff_not]; (try simp only [natc, getI_gi, at2_0, at2_1]); (try dsimp only [Ty.den]); try simp only [natc] at *)
      · (simp only [IfP_iff, EqU_iff, Obl_iff, and_true, true_and, inI_iff, decide_eq_true_eq, decide_eq_false_iff_not]; (try simp only [natc, getI_gi, at2_0, at2_1]); (try dsimp only [Ty.den]); try simp only [natc] at *)
        exact (i6 (by assumption)).2.symm
      · (simp only [IfP_iff, EqU_iff, Obl_iff, and_true, true_and, inI_iff, decide_eq_true_eq, decide_eq_false_iff_not]; (try simp only [natc, getI_gi, at2_0, at2_1]); (try dsimp only [Ty.den]); try simp only [natc] at *)
        exact (i6 (by assumption)).1.symm
theorem sp_slideTokens (n : Int) (l : List (Int × Int)) (p list : List Int) (hl : l.length ≤ 1048576) (hp : p.length ≤ 1048576) (hs : list.length ≤ 1048576) : Spec2 Try.prog 42 [.agg (.pr .int (.sl (.pr .int .int))) fun _ => (n, l), .sl .int fun _ => p, .sl .int fun _ => list] [] [.ref 0, .bool fun _ => sldB n l p list] [some (.row 3 .int fun _ => sldR n l p list)] := by
  have hq := sp_board n l p hl hp
  have ho := sp_ownV p hp
  cases hb : bdB n l p with
  | false =>
    rw [hb] at hq
    obtain ⟨n1, n2⟩ := sld_none (list := list) hb
    rw [n1, n2]
    clear n1 n2
    refine fnS [1] [6, 7] Try.func42 rfl (by decide) rfl (by decide) (by kernel_rfl) rfl (by simp [Try.ntmps42]) ?_
    cbv
    ((try simp only [IfP_iff, and_true, true_and, decide_eq_true_eq, decide_eq_false_iff_not]); (try simp only [natc, getI_gi, at2_0, at2_1]); (try dsimp only [Ty.den]); (try simp only [natc] at *); (repeat' (first | apply And.intro | intro _)))
    all_goals (repeat' (first | ((first | refine call_q hq (by cbv) ?_ | refine call_pure hq (by cbv) ?_); cbv; ((try simp only [IfP_iff, and_true, true_and, decide_eq_true_eq, decide_eq_false_iff_not]); (try simp only [natc, getI_gi, at2_0, at2_1]); (try dsimp only [Ty.den]); (try simp only [natc] at *); (repeat' (first | apply And.intro | intro _))))))
    all_goals (try (exact absurd (by assumption : (!false) = false) (by decide)))
    all_goals (try (simp only [IfP_iff, EqU_iff, Obl_iff, and_true, true_and, inI_iff, decide_eq_true_eq, decide_eq_false_iff_not]; (try simp only [natc, getI_gi, at2_0, at2_1]); (try dsimp only [Ty.den]); try simp only [natc] at *))
    all_goals (first | exact ⟨rfl, rfl⟩ | rfl | trace_state)
  | true =>
    rw [hb] at hq
    have hg := (bd_in hb).2.2.1
    refine fnG [.tmp 6, .tmp 7] Try.func42 rfl (by decide) rfl (by kernel_rfl) (.inr (.inl rfl)) (by kernel_rfl) (Nat.zero_le _) (by simp [Try.ntmps42]) ?_
    cbv
    ((try simp only [IfP_iff, and_true, true_and, decide_eq_true_eq, decide_eq_false_iff_not]); (try simp only [natc, getI_gi, at2_0, at2_1]); (try dsimp only [Ty.den]); (try simp only [natc] at *); (repeat' (first | apply And.intro | intro _)))
    all_goals (repeat' (first | ((first | refine call_q hq (by cbv) ?_ | refine call_pure hq (by cbv) ?_); cbv; ((try simp only [IfP_iff, and_true, true_and, decide_eq_true_eq, decide_eq_false_iff_not]); (try simp only [natc, getI_gi, at2_0, at2_1]); (try dsimp only [Ty.den]); (try simp only [natc] at *); (repeat' (first | apply And.intro | intro _)))) | ((first | refine call_q ho (by cbv) ?_ | refine call_pure ho (by cbv) ?_); cbv; ((try simp only [IfP_iff, and_true, true_and, decide_eq_true_eq, decide_eq_false_iff_not]); (try simp only [natc, getI_gi, at2_0, at2_1]); (try dsimp only [Ty.den]); (try simp only [natc] at *); (repeat' (first | apply And.intro | intro _))))))
    all_goals (try (exact absurd (by assumption : (!true) = true) (by decide)))
    refine loopX (by kernel_rfl) (fun k : Int => 0 ≤ k ∧ k ≤ list.length ∧ ∀ j : Int, 0 ≤ j → j < k → sldQ l p list j = true) (fun k => [(9, .int fun _ => k), (8, .ref 1), (17, .junk)]) (fun k => [(1, some (.row 3 .int fun _ => sldP p list k))]) (fun k => (list.length - k).toNat) (· + 1) 0 (by grind) ?_ ?_
    · cbv
      (simp only [IfP_iff, EqU_iff, Obl_iff, and_true, true_and, inI_iff, decide_eq_true_eq, decide_eq_false_iff_not]; (try simp only [natc, getI_gi, at2_0, at2_1]); (try dsimp only [Ty.den]); try simp only [natc] at *)
      rfl
    · intro k hk
      have i1 := upTo (p := fun j => sldQ l p list j) (k := k) hk.2.2
      have hb2 := bd_in hb
      have hP := sldP_ok hb hk.1 hk.2.2
      have hl8 : (sldP p list k).length ≤ 1048576 := by omega
      have hpos := perm_pos hP.1 (x := 0) (Int.le_refl 0) (by omega)
      have i5 : k < (list.length : Int) → (!nearB l (atI (sldP p list k) 0) (gi list k)) = true → sldR n l p list = [] ∧ sldB n l p list = false := fun a b => sld_bad hk.1 a (show nearB l (gi list k) (atI (sldP p list k) 0) = false by rw [near_comV]; simpa using b)
      have i6 : ¬ k < (list.length : Int) → sldR n l p list = sldP p list k ∧ sldB n l p list = true := fun h => by
        have e : k = list.length := by omega
        have := sld_good (l := l) (list := list) hb fun j a b => hk.2.2 j a (by omega)
        rw [← e] at this
        exact this
      have c1 := sp_at (sldP p list k) 0 hl8 hpos.1 hpos.2.1 hpos.2.2
      have i7 : (!nearB l (atI (sldP p list k) 0) (gi list k)) = false → sldQ l p list k = true ∧ 0 ≤ gi list k ∧ gi list k < (sldP p list k).length := fun h => by
        have h2 : nearB l (gi list k) (atI (sldP p list k) 0) = true := by rw [near_comV]; simpa using h
        have := near_rng hg h2
        exact ⟨h2, by omega, by omega⟩
      have c2 : (!nearB l (atI (sldP p list k) 0) (gi list k)) = false → _ := fun h => sp_swap (sldP p list k) (atI (sldP p list k) 0) (gi list k) hl8 hpos.1 hpos.2.1 (i7 h).2.1 (i7 h).2.2
      have c3 := sp_near n l (atI (sldP p list k) 0) (gi list k) hl
      have i8 : (!nearB l (atI (sldP p list k) 0) (gi list k)) = false → ∀ j : Int, 0 ≤ j → j < k + 1 → sldQ l p list j = true := fun h => i1 (i7 h).1
      have i9 : (!nearB l (atI (sldP p list k) 0) (gi list k)) = false → swp (sldP p list k) (atI (sldP p list k) 0) (gi list k) = sldP p list (k + 1) := fun h => by
        rw [sldP_next hk.1]
        exact swp_sym hpos.1 hpos.2.1 (i7 h).2.1 (i7 h).2.2
      clear i1 i7 hb2 hP hpos hl8 hb
      cbv
      ((try simp only [IfP_iff, and_true, true_and, decide_eq_true_eq, decide_eq_false_iff_not]); (try simp only [natc, getI_gi, at2_0, at2_1]); (try dsimp only [Ty.den]); (try simp only [natc] at *); (repeat' (first | apply And.intro | intro _)))
      all_goals (repeat' (first | ((first | refine call_q c1 (by cbv) ?_ | refine call_pure c1 (by cbv) ?_); cbv; ((try simp only [IfP_iff, and_true, true_and, decide_eq_true_eq, decide_eq_false_iff_not]); (try simp only [natc, getI_gi, at2_0, at2_1]); (try dsimp only [Ty.den]); (try simp only [natc] at *); (repeat' (first | apply And.intro | intro _)))) | ((first | refine call_q c3 (by cbv) ?_ | refine call_pure c3 (by cbv) ?_); cbv; ((try simp only [IfP_iff, and_true, true_and, decide_eq_true_eq, decide_eq_false_iff_not]); (try simp only [natc, getI_gi, at2_0, at2_1]); (try dsimp only [Ty.den]); (try simp only [natc] at *); (repeat' (first | apply And.intro | intro _)))) | ((first | refine call_q (c2 (by assumption)) (by cbv) ?_ | refine call_pure (c2 (by assumption)) (by cbv) ?_); cbv; ((try simp only [IfP_iff, and_true, true_and, decide_eq_true_eq, decide_eq_false_iff_not]); (try simp only [natc, getI_gi, at2_0, at2_1]); (try dsimp only [Ty.den]); (try simp only [natc] at *); (repeat' (first | apply And.intro | intro _))))))
      all_goals (try clear c1 c2 c3)
      all_goals (try (show Obl _; (simp only [IfP_iff, EqU_iff, Obl_iff, and_true, true_and, inI_iff, decide_eq_true_eq, decide_eq_false_iff_not]; (try simp only [natc, getI_gi, at2_0, at2_1]); (try dsimp only [Ty.den]); try simp only [natc] at *); ((repeat' (first | apply And.intro | intro _)) <;> first | omega | (exact i8 (by assumption) _ (by assumption) (by assumption)))))
      all_goals (first
        | (refine EndG.plain [2] ?_
           cbv
           (simp only [IfP_iff, EqU_iff, Obl_iff, and_true, true_and, inI_iff, decide_eq_true_eq, decide_eq_false_iff_not]; (try simp only [natc, getI_gi, at2_0, at2_1]); (try dsimp only [Ty.den]); try simp only [natc] at *)
           have := i5 (by assumption) (by assumption)
           first | exact ⟨this.2.symm, this.1.symm⟩ | exact ⟨this.1.symm, this.2.symm⟩)
        | (refine RenL.mk ⟨[0, 2], ?_⟩
           cbv
           (simp only [IfP_iff, EqU_iff, Obl_iff, and_true, true_and, inI_iff, decide_eq_true_eq, decide_eq_false_iff_not]; (try simp only [natc, getI_gi, at2_0, at2_1]); (try dsimp only [Ty.den]); try simp only [natc] at *)
           exact i9 (by assumption))
        | (refine EndG.plain [1] ?_
           cbv
           (simp only [IfP_iff, EqU_iff, Obl_iff, and_true, true_and, inI_iff, decide_eq_true_eq, decide_eq_false_iff_not]; (try simp only [natc, getI_gi, at2_0, at2_1]); (try dsimp only [Ty.den]); try simp only [natc] at *)
           have := i6 (by assumption)
           first | exact ⟨this.2.symm, this.1.symm⟩ | exact ⟨this.1.symm, this.2.symm⟩)
        | (trace_state; fail))
end Go.Proofs.Ytoejmijcikehdaa.M
